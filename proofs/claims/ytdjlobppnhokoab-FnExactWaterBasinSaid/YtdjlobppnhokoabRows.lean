/-
  No cell of these rows narrows 'for every input' (looked for: loops, veiled, ifaces, maps, wideKeys, modest, calm, conditions, laid).
  DERIVED. THE GIVEN ROWS OF THIS SEAT. 4 by the template 'for every input the law returns true; each argument reads behind the call as it read before'; 0 by the template 'total and deterministic' (their statements: YtdjlobppnhokoabTotals.lean).
  GIVEN WITH THE SEED: the statements are not yours to turn. If you find one false, say at which input.
  Laid BY PROGRAM, IN A SANDBOX (cutbox-rows.mjs): the forced cells as the released guide's own fill.sh prints them over the translation ad6ab61f0665f78d… (all of the seat's roots in one cut). By AI agents, Wed Nov 11 2026. No macro, syntax, notation, axiom, sorry.
-/
import Derived.Test.YtdjlobppnhokoabChecked
import GoSem.Claim
import GoSem.ClaimJoined
import GoSem.ClaimMapViews
import Derived.JoinedTies
import Derived.KernelRfl
namespace Go.Proofs.Ytdjlobppnhokoab
/- THE CELL 'sum', in the pinned program and in every row, IS THE sha256 OF THE DUMP (.gsa) THAT YtdjlobppnhokoabProg.lean LOADS. Nothing in Lean hashes anything: it is a label: what it is worth is what the hold of that sum in a sandbox is worth. -/
noncomputable def Try.pinned : Pinned := { name := "ytdjlobppnhokoab", sum := "ad6ab61f0665f78d875417a3dd7b8e792c56a5e2187586c1f036df14e75962a9", checked := Try.checked }
namespace Rows
def none {H : Type} : Left H := { results := [], args := [] }

/-- 'laws.FnExactWaterBasins': WHATEVER THE INPUT: true; the input reads as it did. -/
def fnExactWaterBasinsSpec : ChangeSpec := { name := "fnExactWaterBasins", fn := fun _ => fun
  | [d] => { results := [.lit (.bool true)], args := [d] }
  | _ => none }
def fnExactWaterBasinsRow : OpenClaim := { program := "ytdjlobppnhokoab", sum := "ad6ab61f0665f78d875417a3dd7b8e792c56a5e2187586c1f036df14e75962a9", func := "loop.example/reliefmaps/laws.FnExactWaterBasins", spec := "fnExactWaterBasins", unfollowed := true, recurses := true, apart := false }
def FnExactWaterBasinsSaid : Prop := fnExactWaterBasinsRow.holds Try.pinned (OpenSpec.ofChange fnExactWaterBasinsSpec)

/-- ITS FALSE NEIGHBOUR: 'it returns false'. Refute it at one input. -/
def fnExactWaterBasinsWrong : ChangeSpec := { name := "fnExactWaterBasins", fn := fun _ => fun
  | [d] => { results := [.lit (.bool false)], args := [d] }
  | _ => none }
def FnExactWaterBasinsWrongFalsely : Prop := fnExactWaterBasinsRow.holds Try.pinned (OpenSpec.ofChange fnExactWaterBasinsWrong)

/-- 'laws.FnExactWaterBasin': WHATEVER THE INPUT: true; the input reads as it did. -/
def fnExactWaterBasinSpec : ChangeSpec := { name := "fnExactWaterBasin", fn := fun _ => fun
  | [d1, d2] => { results := [.lit (.bool true)], args := [d1, d2] }
  | _ => none }
def fnExactWaterBasinRow : OpenClaim := { program := "ytdjlobppnhokoab", sum := "ad6ab61f0665f78d875417a3dd7b8e792c56a5e2187586c1f036df14e75962a9", func := "loop.example/reliefmaps/laws.FnExactWaterBasin", spec := "fnExactWaterBasin", unfollowed := true, recurses := true, apart := false }
def FnExactWaterBasinSaid : Prop := fnExactWaterBasinRow.holds Try.pinned (OpenSpec.ofChange fnExactWaterBasinSpec)

/-- ITS FALSE NEIGHBOUR: 'it returns false'. Refute it at one input. -/
def fnExactWaterBasinWrong : ChangeSpec := { name := "fnExactWaterBasin", fn := fun _ => fun
  | [d1, d2] => { results := [.lit (.bool false)], args := [d1, d2] }
  | _ => none }
def FnExactWaterBasinWrongFalsely : Prop := fnExactWaterBasinRow.holds Try.pinned (OpenSpec.ofChange fnExactWaterBasinWrong)

/-- 'laws.FnExactWaterFlow': WHATEVER THE INPUT: true; the input reads as it did. -/
def fnExactWaterFlowSpec : ChangeSpec := { name := "fnExactWaterFlow", fn := fun _ => fun
  | [d] => { results := [.lit (.bool true)], args := [d] }
  | _ => none }
def fnExactWaterFlowRow : OpenClaim := { program := "ytdjlobppnhokoab", sum := "ad6ab61f0665f78d875417a3dd7b8e792c56a5e2187586c1f036df14e75962a9", func := "loop.example/reliefmaps/laws.FnExactWaterFlow", spec := "fnExactWaterFlow", unfollowed := true, recurses := true, apart := false }
def FnExactWaterFlowSaid : Prop := fnExactWaterFlowRow.holds Try.pinned (OpenSpec.ofChange fnExactWaterFlowSpec)

/-- ITS FALSE NEIGHBOUR: 'it returns false'. Refute it at one input. -/
def fnExactWaterFlowWrong : ChangeSpec := { name := "fnExactWaterFlow", fn := fun _ => fun
  | [d] => { results := [.lit (.bool false)], args := [d] }
  | _ => none }
def FnExactWaterFlowWrongFalsely : Prop := fnExactWaterFlowRow.holds Try.pinned (OpenSpec.ofChange fnExactWaterFlowWrong)

/-- 'laws.FnExactWaterDivide': WHATEVER THE INPUT: true; the input reads as it did. -/
def fnExactWaterDivideSpec : ChangeSpec := { name := "fnExactWaterDivide", fn := fun _ => fun
  | [d] => { results := [.lit (.bool true)], args := [d] }
  | _ => none }
def fnExactWaterDivideRow : OpenClaim := { program := "ytdjlobppnhokoab", sum := "ad6ab61f0665f78d875417a3dd7b8e792c56a5e2187586c1f036df14e75962a9", func := "loop.example/reliefmaps/laws.FnExactWaterDivide", spec := "fnExactWaterDivide", unfollowed := true, recurses := true, apart := false }
def FnExactWaterDivideSaid : Prop := fnExactWaterDivideRow.holds Try.pinned (OpenSpec.ofChange fnExactWaterDivideSpec)

/-- ITS FALSE NEIGHBOUR: 'it returns false'. Refute it at one input. -/
def fnExactWaterDivideWrong : ChangeSpec := { name := "fnExactWaterDivide", fn := fun _ => fun
  | [d] => { results := [.lit (.bool false)], args := [d] }
  | _ => none }
def FnExactWaterDivideWrongFalsely : Prop := fnExactWaterDivideRow.holds Try.pinned (OpenSpec.ofChange fnExactWaterDivideWrong)

/- THE SECOND FORM. 'bulk': how many values and letters a reading holds, each counted each time it is reached (what is shared counts as often as it is met; a slice's spare places count too). A statement '..UptoSaid' is the law's where the arguments, and the package variables that the reading takes, are together of bulk at most 1048576: NARROWER than '..Said'. Prove '..Said' where nothing that the law and all that it calls make is longer than what came in: it says more and counts as full. Else prove '..UptoSaid'. A law counts once. -/
mutual
def uptoBulk {H : Type} : DataW H → Nat
  | .lit (.string bytes) => bytes.length + 1
  | .lit _ => 1
  | .nil => 1
  | .ptr d => uptoBulk d + 1
  | .slice elems spare => uptoBulkAll elems + uptoBulkAll spare + 1
  | .agg parts => uptoBulkAll parts + 1
  | .iface _ d => uptoBulk d + 1
  | .map entries => uptoBulkEntries entries + 1
  | .held _ => 1
def uptoBulkAll {H : Type} : List (DataW H) → Nat
  | [] => 0
  | d :: r => uptoBulk d + uptoBulkAll r
def uptoBulkEntries {H : Type} : List (Lit × DataW H) → Nat
  | [] => 0
  | x :: r => uptoBulkEntry x + uptoBulkEntries r
def uptoBulkEntry {H : Type} : Lit × DataW H → Nat
  | (.string bytes, d) => bytes.length + uptoBulk d + 1
  | (_, d) => uptoBulk d + 1
 end
def uptoSmall : (H : Type) → List (DataW H) → Bool := fun _ ds => decide (uptoBulkAll ds ≤ 1048576)
def OpenSpec.upto (s : _root_.Go.ChangeSpec) : _root_.Go.OpenSpec := { _root_.Go.OpenSpec.ofChange s with cond := some uptoSmall }

/-- 'laws.FnExactWaterBasins', WHERE WHAT IT READS IS OF BULK AT MOST 1048576: true; the input reads as it did. -/
def fnExactWaterBasinsUptoRow : OpenClaim := { program := "ytdjlobppnhokoab", sum := "ad6ab61f0665f78d875417a3dd7b8e792c56a5e2187586c1f036df14e75962a9", func := "loop.example/reliefmaps/laws.FnExactWaterBasins", spec := "fnExactWaterBasins", unfollowed := true, recurses := true, apart := false, narrowed := true }
def FnExactWaterBasinsUptoSaid : Prop := fnExactWaterBasinsUptoRow.holds Try.pinned (OpenSpec.upto fnExactWaterBasinsSpec)

/-- 'laws.FnExactWaterBasin', WHERE WHAT IT READS IS OF BULK AT MOST 1048576: true; the input reads as it did. -/
def fnExactWaterBasinUptoRow : OpenClaim := { program := "ytdjlobppnhokoab", sum := "ad6ab61f0665f78d875417a3dd7b8e792c56a5e2187586c1f036df14e75962a9", func := "loop.example/reliefmaps/laws.FnExactWaterBasin", spec := "fnExactWaterBasin", unfollowed := true, recurses := true, apart := false, narrowed := true }
def FnExactWaterBasinUptoSaid : Prop := fnExactWaterBasinUptoRow.holds Try.pinned (OpenSpec.upto fnExactWaterBasinSpec)

/-- 'laws.FnExactWaterFlow', WHERE WHAT IT READS IS OF BULK AT MOST 1048576: true; the input reads as it did. -/
def fnExactWaterFlowUptoRow : OpenClaim := { program := "ytdjlobppnhokoab", sum := "ad6ab61f0665f78d875417a3dd7b8e792c56a5e2187586c1f036df14e75962a9", func := "loop.example/reliefmaps/laws.FnExactWaterFlow", spec := "fnExactWaterFlow", unfollowed := true, recurses := true, apart := false, narrowed := true }
def FnExactWaterFlowUptoSaid : Prop := fnExactWaterFlowUptoRow.holds Try.pinned (OpenSpec.upto fnExactWaterFlowSpec)

/-- 'laws.FnExactWaterDivide', WHERE WHAT IT READS IS OF BULK AT MOST 1048576: true; the input reads as it did. -/
def fnExactWaterDivideUptoRow : OpenClaim := { program := "ytdjlobppnhokoab", sum := "ad6ab61f0665f78d875417a3dd7b8e792c56a5e2187586c1f036df14e75962a9", func := "loop.example/reliefmaps/laws.FnExactWaterDivide", spec := "fnExactWaterDivide", unfollowed := true, recurses := true, apart := false, narrowed := true }
def FnExactWaterDivideUptoSaid : Prop := fnExactWaterDivideUptoRow.holds Try.pinned (OpenSpec.upto fnExactWaterDivideSpec)

end Rows
end Go.Proofs.Ytdjlobppnhokoab
