/-
  No cell of these rows narrows 'for every input' (looked for: loops, veiled, ifaces, maps, wideKeys, modest, calm, conditions, laid).
  DERIVED. THE GIVEN ROWS OF THIS SEAT. 9 by the template 'for every input the law returns true; each argument reads behind the call as it read before'; 0 by the template 'total and deterministic' (their statements: YtjllmidagcniaaaTotals.lean).
  GIVEN WITH THE SEED: the statements are not yours to turn. If you find one false, say at which input.
  Laid BY PROGRAM, IN A SANDBOX (cutbox-rows.mjs): the forced cells as the released guide's own fill.sh prints them over the translation c30f0e97d8a8ed7c… (all of the seat's roots in one cut). By AI agents, Wed Nov 11 2026. No macro, syntax, notation, axiom, sorry.
-/
import Derived.Test.YtjllmidagcniaaaChecked
import GoSem.Claim
import GoSem.ClaimJoined
import GoSem.ClaimMapViews
import Derived.JoinedTies
import Derived.KernelRfl
namespace Go.Proofs.Ytjllmidagcniaaa
/- THE CELL 'sum', in the pinned program and in every row, IS THE sha256 OF THE DUMP (.gsa) THAT YtjllmidagcniaaaProg.lean LOADS. Nothing in Lean hashes anything: it is a label: what it is worth is what the hold of that sum in a sandbox is worth. -/
noncomputable def Try.pinned : Pinned := { name := "ytjllmidagcniaaa", sum := "c30f0e97d8a8ed7c393dea6dbfc0a01455bb683988d3969fd15d88cef970b4ba", checked := Try.checked }
namespace Rows
def none {H : Type} : Left H := { results := [], args := [] }

/-- 'laws.FnGridsAgree': WHATEVER THE INPUT: true; the input reads as it did. -/
def fnGridsAgreeSpec : ChangeSpec := { name := "fnGridsAgree", fn := fun _ => fun
  | [d] => { results := [.lit (.bool true)], args := [d] }
  | _ => none }
def fnGridsAgreeRow : OpenClaim := { program := "ytjllmidagcniaaa", sum := "c30f0e97d8a8ed7c393dea6dbfc0a01455bb683988d3969fd15d88cef970b4ba", func := "loop.example/reliefmaps/laws.FnGridsAgree", spec := "fnGridsAgree", unfollowed := true, recurses := true, apart := false }
def FnGridsAgreeSaid : Prop := fnGridsAgreeRow.holds Try.pinned (OpenSpec.ofChange fnGridsAgreeSpec)

/-- ITS FALSE NEIGHBOUR: 'it returns false'. Refute it at one input. -/
def fnGridsAgreeWrong : ChangeSpec := { name := "fnGridsAgree", fn := fun _ => fun
  | [d] => { results := [.lit (.bool false)], args := [d] }
  | _ => none }
def FnGridsAgreeWrongFalsely : Prop := fnGridsAgreeRow.holds Try.pinned (OpenSpec.ofChange fnGridsAgreeWrong)

/-- 'laws.FnGridsJoin': WHATEVER THE INPUT: true; the input reads as it did. -/
def fnGridsJoinSpec : ChangeSpec := { name := "fnGridsJoin", fn := fun _ => fun
  | [d] => { results := [.lit (.bool true)], args := [d] }
  | _ => none }
def fnGridsJoinRow : OpenClaim := { program := "ytjllmidagcniaaa", sum := "c30f0e97d8a8ed7c393dea6dbfc0a01455bb683988d3969fd15d88cef970b4ba", func := "loop.example/reliefmaps/laws.FnGridsJoin", spec := "fnGridsJoin", unfollowed := true, recurses := true, apart := false }
def FnGridsJoinSaid : Prop := fnGridsJoinRow.holds Try.pinned (OpenSpec.ofChange fnGridsJoinSpec)

/-- ITS FALSE NEIGHBOUR: 'it returns false'. Refute it at one input. -/
def fnGridsJoinWrong : ChangeSpec := { name := "fnGridsJoin", fn := fun _ => fun
  | [d] => { results := [.lit (.bool false)], args := [d] }
  | _ => none }
def FnGridsJoinWrongFalsely : Prop := fnGridsJoinRow.holds Try.pinned (OpenSpec.ofChange fnGridsJoinWrong)

/-- 'laws.FnGridsGap': WHATEVER THE INPUT: true; the input reads as it did. -/
def fnGridsGapSpec : ChangeSpec := { name := "fnGridsGap", fn := fun _ => fun
  | [d] => { results := [.lit (.bool true)], args := [d] }
  | _ => none }
def fnGridsGapRow : OpenClaim := { program := "ytjllmidagcniaaa", sum := "c30f0e97d8a8ed7c393dea6dbfc0a01455bb683988d3969fd15d88cef970b4ba", func := "loop.example/reliefmaps/laws.FnGridsGap", spec := "fnGridsGap", unfollowed := true, recurses := true, apart := false }
def FnGridsGapSaid : Prop := fnGridsGapRow.holds Try.pinned (OpenSpec.ofChange fnGridsGapSpec)

/-- ITS FALSE NEIGHBOUR: 'it returns false'. Refute it at one input. -/
def fnGridsGapWrong : ChangeSpec := { name := "fnGridsGap", fn := fun _ => fun
  | [d] => { results := [.lit (.bool false)], args := [d] }
  | _ => none }
def FnGridsGapWrongFalsely : Prop := fnGridsGapRow.holds Try.pinned (OpenSpec.ofChange fnGridsGapWrong)

/-- 'laws.FnGridsMend': WHATEVER THE INPUT: true; the input reads as it did. -/
def fnGridsMendSpec : ChangeSpec := { name := "fnGridsMend", fn := fun _ => fun
  | [d] => { results := [.lit (.bool true)], args := [d] }
  | _ => none }
def fnGridsMendRow : OpenClaim := { program := "ytjllmidagcniaaa", sum := "c30f0e97d8a8ed7c393dea6dbfc0a01455bb683988d3969fd15d88cef970b4ba", func := "loop.example/reliefmaps/laws.FnGridsMend", spec := "fnGridsMend", unfollowed := true, recurses := true, apart := false }
def FnGridsMendSaid : Prop := fnGridsMendRow.holds Try.pinned (OpenSpec.ofChange fnGridsMendSpec)

/-- ITS FALSE NEIGHBOUR: 'it returns false'. Refute it at one input. -/
def fnGridsMendWrong : ChangeSpec := { name := "fnGridsMend", fn := fun _ => fun
  | [d] => { results := [.lit (.bool false)], args := [d] }
  | _ => none }
def FnGridsMendWrongFalsely : Prop := fnGridsMendRow.holds Try.pinned (OpenSpec.ofChange fnGridsMendWrong)

/-- 'laws.FnGridAt': WHATEVER THE INPUT: true; the input reads as it did. -/
def fnGridAtSpec : ChangeSpec := { name := "fnGridAt", fn := fun _ => fun
  | [d] => { results := [.lit (.bool true)], args := [d] }
  | _ => none }
def fnGridAtRow : OpenClaim := { program := "ytjllmidagcniaaa", sum := "c30f0e97d8a8ed7c393dea6dbfc0a01455bb683988d3969fd15d88cef970b4ba", func := "loop.example/reliefmaps/laws.FnGridAt", spec := "fnGridAt", unfollowed := true, recurses := true, apart := false }
def FnGridAtSaid : Prop := fnGridAtRow.holds Try.pinned (OpenSpec.ofChange fnGridAtSpec)

/-- ITS FALSE NEIGHBOUR: 'it returns false'. Refute it at one input. -/
def fnGridAtWrong : ChangeSpec := { name := "fnGridAt", fn := fun _ => fun
  | [d] => { results := [.lit (.bool false)], args := [d] }
  | _ => none }
def FnGridAtWrongFalsely : Prop := fnGridAtRow.holds Try.pinned (OpenSpec.ofChange fnGridAtWrong)

/-- 'laws.FnGridSet': WHATEVER THE INPUT: true; the input reads as it did. -/
def fnGridSetSpec : ChangeSpec := { name := "fnGridSet", fn := fun _ => fun
  | [d] => { results := [.lit (.bool true)], args := [d] }
  | _ => none }
def fnGridSetRow : OpenClaim := { program := "ytjllmidagcniaaa", sum := "c30f0e97d8a8ed7c393dea6dbfc0a01455bb683988d3969fd15d88cef970b4ba", func := "loop.example/reliefmaps/laws.FnGridSet", spec := "fnGridSet", unfollowed := true, recurses := true, apart := false }
def FnGridSetSaid : Prop := fnGridSetRow.holds Try.pinned (OpenSpec.ofChange fnGridSetSpec)

/-- ITS FALSE NEIGHBOUR: 'it returns false'. Refute it at one input. -/
def fnGridSetWrong : ChangeSpec := { name := "fnGridSet", fn := fun _ => fun
  | [d] => { results := [.lit (.bool false)], args := [d] }
  | _ => none }
def FnGridSetWrongFalsely : Prop := fnGridSetRow.holds Try.pinned (OpenSpec.ofChange fnGridSetWrong)

/-- 'laws.FnGridPart': WHATEVER THE INPUT: true; the input reads as it did. -/
def fnGridPartSpec : ChangeSpec := { name := "fnGridPart", fn := fun _ => fun
  | [d] => { results := [.lit (.bool true)], args := [d] }
  | _ => none }
def fnGridPartRow : OpenClaim := { program := "ytjllmidagcniaaa", sum := "c30f0e97d8a8ed7c393dea6dbfc0a01455bb683988d3969fd15d88cef970b4ba", func := "loop.example/reliefmaps/laws.FnGridPart", spec := "fnGridPart", unfollowed := true, recurses := true, apart := false }
def FnGridPartSaid : Prop := fnGridPartRow.holds Try.pinned (OpenSpec.ofChange fnGridPartSpec)

/-- ITS FALSE NEIGHBOUR: 'it returns false'. Refute it at one input. -/
def fnGridPartWrong : ChangeSpec := { name := "fnGridPart", fn := fun _ => fun
  | [d] => { results := [.lit (.bool false)], args := [d] }
  | _ => none }
def FnGridPartWrongFalsely : Prop := fnGridPartRow.holds Try.pinned (OpenSpec.ofChange fnGridPartWrong)

/-- 'laws.FnWaterNext': WHATEVER THE INPUT: true; the input reads as it did. -/
def fnWaterNextSpec : ChangeSpec := { name := "fnWaterNext", fn := fun _ => fun
  | [d] => { results := [.lit (.bool true)], args := [d] }
  | _ => none }
def fnWaterNextRow : OpenClaim := { program := "ytjllmidagcniaaa", sum := "c30f0e97d8a8ed7c393dea6dbfc0a01455bb683988d3969fd15d88cef970b4ba", func := "loop.example/reliefmaps/laws.FnWaterNext", spec := "fnWaterNext", unfollowed := true, recurses := true, apart := false }
def FnWaterNextSaid : Prop := fnWaterNextRow.holds Try.pinned (OpenSpec.ofChange fnWaterNextSpec)

/-- ITS FALSE NEIGHBOUR: 'it returns false'. Refute it at one input. -/
def fnWaterNextWrong : ChangeSpec := { name := "fnWaterNext", fn := fun _ => fun
  | [d] => { results := [.lit (.bool false)], args := [d] }
  | _ => none }
def FnWaterNextWrongFalsely : Prop := fnWaterNextRow.holds Try.pinned (OpenSpec.ofChange fnWaterNextWrong)

/-- 'laws.FnWaterRun': WHATEVER THE INPUT: true; the input reads as it did. -/
def fnWaterRunSpec : ChangeSpec := { name := "fnWaterRun", fn := fun _ => fun
  | [d] => { results := [.lit (.bool true)], args := [d] }
  | _ => none }
def fnWaterRunRow : OpenClaim := { program := "ytjllmidagcniaaa", sum := "c30f0e97d8a8ed7c393dea6dbfc0a01455bb683988d3969fd15d88cef970b4ba", func := "loop.example/reliefmaps/laws.FnWaterRun", spec := "fnWaterRun", unfollowed := true, recurses := true, apart := false }
def FnWaterRunSaid : Prop := fnWaterRunRow.holds Try.pinned (OpenSpec.ofChange fnWaterRunSpec)

/-- ITS FALSE NEIGHBOUR: 'it returns false'. Refute it at one input. -/
def fnWaterRunWrong : ChangeSpec := { name := "fnWaterRun", fn := fun _ => fun
  | [d] => { results := [.lit (.bool false)], args := [d] }
  | _ => none }
def FnWaterRunWrongFalsely : Prop := fnWaterRunRow.holds Try.pinned (OpenSpec.ofChange fnWaterRunWrong)

/- THE SECOND FORM. 'bulk': how many values and letters a reading holds, each counted each time it is reached (what is shared counts as often as it is met; a slice's spare places count too). A statement '..UptoSaid' is the law's where the arguments, and the package variables that the reading takes, are together of bulk at most 1048576: NARROWER than '..Said'. Prove '..Said' where nothing that the law and all that it calls make is longer than what came in: it says more and counts as full. Else prove '..UptoSaid'. A law counts once. -/
mutual
def uptoBulk {H : Type} : DataW H → Nat
  | .lit (.string bytes) => bytes.length + 1
  | .lit _ => 1
  | .nil => 1
  | .ptr d => uptoBulk d + 1
  | .slice elems spare => uptoBulkAll elems + uptoBulkAll spare + 1
  | .agg parts => uptoBulkAll parts + 1
  | .iface _ d => uptoBulk d + 1
  | .map entries => uptoBulkEntries entries + 1
  | .held _ => 1
def uptoBulkAll {H : Type} : List (DataW H) → Nat
  | [] => 0
  | d :: r => uptoBulk d + uptoBulkAll r
def uptoBulkEntries {H : Type} : List (Lit × DataW H) → Nat
  | [] => 0
  | x :: r => uptoBulkEntry x + uptoBulkEntries r
def uptoBulkEntry {H : Type} : Lit × DataW H → Nat
  | (.string bytes, d) => bytes.length + uptoBulk d + 1
  | (_, d) => uptoBulk d + 1
 end
def uptoSmall : (H : Type) → List (DataW H) → Bool := fun _ ds => decide (uptoBulkAll ds ≤ 1048576)
def OpenSpec.upto (s : _root_.Go.ChangeSpec) : _root_.Go.OpenSpec := { _root_.Go.OpenSpec.ofChange s with cond := some uptoSmall }

/-- 'laws.FnGridsAgree', WHERE WHAT IT READS IS OF BULK AT MOST 1048576: true; the input reads as it did. -/
def fnGridsAgreeUptoRow : OpenClaim := { program := "ytjllmidagcniaaa", sum := "c30f0e97d8a8ed7c393dea6dbfc0a01455bb683988d3969fd15d88cef970b4ba", func := "loop.example/reliefmaps/laws.FnGridsAgree", spec := "fnGridsAgree", unfollowed := true, recurses := true, apart := false, narrowed := true }
def FnGridsAgreeUptoSaid : Prop := fnGridsAgreeUptoRow.holds Try.pinned (OpenSpec.upto fnGridsAgreeSpec)

/-- 'laws.FnGridsJoin', WHERE WHAT IT READS IS OF BULK AT MOST 1048576: true; the input reads as it did. -/
def fnGridsJoinUptoRow : OpenClaim := { program := "ytjllmidagcniaaa", sum := "c30f0e97d8a8ed7c393dea6dbfc0a01455bb683988d3969fd15d88cef970b4ba", func := "loop.example/reliefmaps/laws.FnGridsJoin", spec := "fnGridsJoin", unfollowed := true, recurses := true, apart := false, narrowed := true }
def FnGridsJoinUptoSaid : Prop := fnGridsJoinUptoRow.holds Try.pinned (OpenSpec.upto fnGridsJoinSpec)

/-- 'laws.FnGridsGap', WHERE WHAT IT READS IS OF BULK AT MOST 1048576: true; the input reads as it did. -/
def fnGridsGapUptoRow : OpenClaim := { program := "ytjllmidagcniaaa", sum := "c30f0e97d8a8ed7c393dea6dbfc0a01455bb683988d3969fd15d88cef970b4ba", func := "loop.example/reliefmaps/laws.FnGridsGap", spec := "fnGridsGap", unfollowed := true, recurses := true, apart := false, narrowed := true }
def FnGridsGapUptoSaid : Prop := fnGridsGapUptoRow.holds Try.pinned (OpenSpec.upto fnGridsGapSpec)

/-- 'laws.FnGridsMend', WHERE WHAT IT READS IS OF BULK AT MOST 1048576: true; the input reads as it did. -/
def fnGridsMendUptoRow : OpenClaim := { program := "ytjllmidagcniaaa", sum := "c30f0e97d8a8ed7c393dea6dbfc0a01455bb683988d3969fd15d88cef970b4ba", func := "loop.example/reliefmaps/laws.FnGridsMend", spec := "fnGridsMend", unfollowed := true, recurses := true, apart := false, narrowed := true }
def FnGridsMendUptoSaid : Prop := fnGridsMendUptoRow.holds Try.pinned (OpenSpec.upto fnGridsMendSpec)

/-- 'laws.FnGridAt', WHERE WHAT IT READS IS OF BULK AT MOST 1048576: true; the input reads as it did. -/
def fnGridAtUptoRow : OpenClaim := { program := "ytjllmidagcniaaa", sum := "c30f0e97d8a8ed7c393dea6dbfc0a01455bb683988d3969fd15d88cef970b4ba", func := "loop.example/reliefmaps/laws.FnGridAt", spec := "fnGridAt", unfollowed := true, recurses := true, apart := false, narrowed := true }
def FnGridAtUptoSaid : Prop := fnGridAtUptoRow.holds Try.pinned (OpenSpec.upto fnGridAtSpec)

/-- 'laws.FnGridSet', WHERE WHAT IT READS IS OF BULK AT MOST 1048576: true; the input reads as it did. -/
def fnGridSetUptoRow : OpenClaim := { program := "ytjllmidagcniaaa", sum := "c30f0e97d8a8ed7c393dea6dbfc0a01455bb683988d3969fd15d88cef970b4ba", func := "loop.example/reliefmaps/laws.FnGridSet", spec := "fnGridSet", unfollowed := true, recurses := true, apart := false, narrowed := true }
def FnGridSetUptoSaid : Prop := fnGridSetUptoRow.holds Try.pinned (OpenSpec.upto fnGridSetSpec)

/-- 'laws.FnGridPart', WHERE WHAT IT READS IS OF BULK AT MOST 1048576: true; the input reads as it did. -/
def fnGridPartUptoRow : OpenClaim := { program := "ytjllmidagcniaaa", sum := "c30f0e97d8a8ed7c393dea6dbfc0a01455bb683988d3969fd15d88cef970b4ba", func := "loop.example/reliefmaps/laws.FnGridPart", spec := "fnGridPart", unfollowed := true, recurses := true, apart := false, narrowed := true }
def FnGridPartUptoSaid : Prop := fnGridPartUptoRow.holds Try.pinned (OpenSpec.upto fnGridPartSpec)

/-- 'laws.FnWaterNext', WHERE WHAT IT READS IS OF BULK AT MOST 1048576: true; the input reads as it did. -/
def fnWaterNextUptoRow : OpenClaim := { program := "ytjllmidagcniaaa", sum := "c30f0e97d8a8ed7c393dea6dbfc0a01455bb683988d3969fd15d88cef970b4ba", func := "loop.example/reliefmaps/laws.FnWaterNext", spec := "fnWaterNext", unfollowed := true, recurses := true, apart := false, narrowed := true }
def FnWaterNextUptoSaid : Prop := fnWaterNextUptoRow.holds Try.pinned (OpenSpec.upto fnWaterNextSpec)

/-- 'laws.FnWaterRun', WHERE WHAT IT READS IS OF BULK AT MOST 1048576: true; the input reads as it did. -/
def fnWaterRunUptoRow : OpenClaim := { program := "ytjllmidagcniaaa", sum := "c30f0e97d8a8ed7c393dea6dbfc0a01455bb683988d3969fd15d88cef970b4ba", func := "loop.example/reliefmaps/laws.FnWaterRun", spec := "fnWaterRun", unfollowed := true, recurses := true, apart := false, narrowed := true }
def FnWaterRunUptoSaid : Prop := fnWaterRunUptoRow.holds Try.pinned (OpenSpec.upto fnWaterRunSpec)

end Rows
end Go.Proofs.Ytjllmidagcniaaa
