/-
  No cell of these rows narrows 'for every input' (looked for: loops, veiled, ifaces, maps, wideKeys, modest, calm, conditions, laid).
  DERIVED. THE GIVEN ROWS OF THIS SEAT. 8 by the template 'for every input the law returns true; each argument reads behind the call as it read before'; 0 by the template 'total and deterministic' (their statements: YthcgoncgbhphiabTotals.lean).
  GIVEN WITH THE SEED: the statements are not yours to turn. If you find one false, say at which input.
  Laid BY PROGRAM, IN A SANDBOX (cutbox-rows.mjs): the forced cells as the released guide's own fill.sh prints them over the translation ed8e78680c095268… (all of the seat's roots in one cut). By AI agents, Wed Nov 11 2026. No macro, syntax, notation, axiom, sorry.
-/
import Derived.Test.YthcgoncgbhphiabChecked
import GoSem.Claim
import GoSem.ClaimJoined
import GoSem.ClaimMapViews
import Derived.JoinedTies
import Derived.KernelRfl
namespace Go.Proofs.Ythcgoncgbhphiab
/- THE CELL 'sum', in the pinned program and in every row, IS THE sha256 OF THE DUMP (.gsa) THAT YthcgoncgbhphiabProg.lean LOADS. Nothing in Lean hashes anything: it is a label: what it is worth is what the hold of that sum in a sandbox is worth. -/
noncomputable def Try.pinned : Pinned := { name := "ythcgoncgbhphiab", sum := "ed8e78680c095268b8f08822a217b672a096405233f041d0ad6ab4d7e76e0e97", checked := Try.checked }
namespace Rows
def none {H : Type} : Left H := { results := [], args := [] }

/-- 'laws.FnExactLevelRegions': WHATEVER THE INPUT: true; the input reads as it did. -/
def fnExactLevelRegionsSpec : ChangeSpec := { name := "fnExactLevelRegions", fn := fun _ => fun
  | [d1, d2] => { results := [.lit (.bool true)], args := [d1, d2] }
  | _ => none }
def fnExactLevelRegionsRow : OpenClaim := { program := "ythcgoncgbhphiab", sum := "ed8e78680c095268b8f08822a217b672a096405233f041d0ad6ab4d7e76e0e97", func := "loop.example/reliefmaps/laws.FnExactLevelRegions", spec := "fnExactLevelRegions", unfollowed := true, recurses := true, apart := false }
def FnExactLevelRegionsSaid : Prop := fnExactLevelRegionsRow.holds Try.pinned (OpenSpec.ofChange fnExactLevelRegionsSpec)

/-- ITS FALSE NEIGHBOUR: 'it returns false'. Refute it at one input. -/
def fnExactLevelRegionsWrong : ChangeSpec := { name := "fnExactLevelRegions", fn := fun _ => fun
  | [d1, d2] => { results := [.lit (.bool false)], args := [d1, d2] }
  | _ => none }
def FnExactLevelRegionsWrongFalsely : Prop := fnExactLevelRegionsRow.holds Try.pinned (OpenSpec.ofChange fnExactLevelRegionsWrong)

/-- 'laws.FnExactLevelNumbers': WHATEVER THE INPUT: true; the input reads as it did. -/
def fnExactLevelNumbersSpec : ChangeSpec := { name := "fnExactLevelNumbers", fn := fun _ => fun
  | [d1, d2] => { results := [.lit (.bool true)], args := [d1, d2] }
  | _ => none }
def fnExactLevelNumbersRow : OpenClaim := { program := "ythcgoncgbhphiab", sum := "ed8e78680c095268b8f08822a217b672a096405233f041d0ad6ab4d7e76e0e97", func := "loop.example/reliefmaps/laws.FnExactLevelNumbers", spec := "fnExactLevelNumbers", unfollowed := true, recurses := true, apart := false }
def FnExactLevelNumbersSaid : Prop := fnExactLevelNumbersRow.holds Try.pinned (OpenSpec.ofChange fnExactLevelNumbersSpec)

/-- ITS FALSE NEIGHBOUR: 'it returns false'. Refute it at one input. -/
def fnExactLevelNumbersWrong : ChangeSpec := { name := "fnExactLevelNumbers", fn := fun _ => fun
  | [d1, d2] => { results := [.lit (.bool false)], args := [d1, d2] }
  | _ => none }
def FnExactLevelNumbersWrongFalsely : Prop := fnExactLevelNumbersRow.holds Try.pinned (OpenSpec.ofChange fnExactLevelNumbersWrong)

/-- 'laws.FnExactLevelArea': WHATEVER THE INPUT: true; the input reads as it did. -/
def fnExactLevelAreaSpec : ChangeSpec := { name := "fnExactLevelArea", fn := fun _ => fun
  | [d1, d2, d3] => { results := [.lit (.bool true)], args := [d1, d2, d3] }
  | _ => none }
def fnExactLevelAreaRow : OpenClaim := { program := "ythcgoncgbhphiab", sum := "ed8e78680c095268b8f08822a217b672a096405233f041d0ad6ab4d7e76e0e97", func := "loop.example/reliefmaps/laws.FnExactLevelArea", spec := "fnExactLevelArea", unfollowed := true, recurses := true, apart := false }
def FnExactLevelAreaSaid : Prop := fnExactLevelAreaRow.holds Try.pinned (OpenSpec.ofChange fnExactLevelAreaSpec)

/-- ITS FALSE NEIGHBOUR: 'it returns false'. Refute it at one input. -/
def fnExactLevelAreaWrong : ChangeSpec := { name := "fnExactLevelArea", fn := fun _ => fun
  | [d1, d2, d3] => { results := [.lit (.bool false)], args := [d1, d2, d3] }
  | _ => none }
def FnExactLevelAreaWrongFalsely : Prop := fnExactLevelAreaRow.holds Try.pinned (OpenSpec.ofChange fnExactLevelAreaWrong)

/-- 'laws.FnExactLevelWhole': WHATEVER THE INPUT: true; the input reads as it did. -/
def fnExactLevelWholeSpec : ChangeSpec := { name := "fnExactLevelWhole", fn := fun _ => fun
  | [d] => { results := [.lit (.bool true)], args := [d] }
  | _ => none }
def fnExactLevelWholeRow : OpenClaim := { program := "ythcgoncgbhphiab", sum := "ed8e78680c095268b8f08822a217b672a096405233f041d0ad6ab4d7e76e0e97", func := "loop.example/reliefmaps/laws.FnExactLevelWhole", spec := "fnExactLevelWhole", unfollowed := true, recurses := true, apart := false }
def FnExactLevelWholeSaid : Prop := fnExactLevelWholeRow.holds Try.pinned (OpenSpec.ofChange fnExactLevelWholeSpec)

/-- ITS FALSE NEIGHBOUR: 'it returns false'. Refute it at one input. -/
def fnExactLevelWholeWrong : ChangeSpec := { name := "fnExactLevelWhole", fn := fun _ => fun
  | [d] => { results := [.lit (.bool false)], args := [d] }
  | _ => none }
def FnExactLevelWholeWrongFalsely : Prop := fnExactLevelWholeRow.holds Try.pinned (OpenSpec.ofChange fnExactLevelWholeWrong)

/-- 'laws.FnExactLevelInside': WHATEVER THE INPUT: true; the input reads as it did. -/
def fnExactLevelInsideSpec : ChangeSpec := { name := "fnExactLevelInside", fn := fun _ => fun
  | [d1, d2, d3] => { results := [.lit (.bool true)], args := [d1, d2, d3] }
  | _ => none }
def fnExactLevelInsideRow : OpenClaim := { program := "ythcgoncgbhphiab", sum := "ed8e78680c095268b8f08822a217b672a096405233f041d0ad6ab4d7e76e0e97", func := "loop.example/reliefmaps/laws.FnExactLevelInside", spec := "fnExactLevelInside", unfollowed := true, recurses := true, apart := false }
def FnExactLevelInsideSaid : Prop := fnExactLevelInsideRow.holds Try.pinned (OpenSpec.ofChange fnExactLevelInsideSpec)

/-- ITS FALSE NEIGHBOUR: 'it returns false'. Refute it at one input. -/
def fnExactLevelInsideWrong : ChangeSpec := { name := "fnExactLevelInside", fn := fun _ => fun
  | [d1, d2, d3] => { results := [.lit (.bool false)], args := [d1, d2, d3] }
  | _ => none }
def FnExactLevelInsideWrongFalsely : Prop := fnExactLevelInsideRow.holds Try.pinned (OpenSpec.ofChange fnExactLevelInsideWrong)

/-- 'laws.FnRegions': WHATEVER THE INPUT: true; the input reads as it did. -/
def fnRegionsSpec : ChangeSpec := { name := "fnRegions", fn := fun _ => fun
  | [d] => { results := [.lit (.bool true)], args := [d] }
  | _ => none }
def fnRegionsRow : OpenClaim := { program := "ythcgoncgbhphiab", sum := "ed8e78680c095268b8f08822a217b672a096405233f041d0ad6ab4d7e76e0e97", func := "loop.example/reliefmaps/laws.FnRegions", spec := "fnRegions", unfollowed := true, recurses := true, apart := false }
def FnRegionsSaid : Prop := fnRegionsRow.holds Try.pinned (OpenSpec.ofChange fnRegionsSpec)

/-- ITS FALSE NEIGHBOUR: 'it returns false'. Refute it at one input. -/
def fnRegionsWrong : ChangeSpec := { name := "fnRegions", fn := fun _ => fun
  | [d] => { results := [.lit (.bool false)], args := [d] }
  | _ => none }
def FnRegionsWrongFalsely : Prop := fnRegionsRow.holds Try.pinned (OpenSpec.ofChange fnRegionsWrong)

/-- 'laws.FnArea': WHATEVER THE INPUT: true; the input reads as it did. -/
def fnAreaSpec : ChangeSpec := { name := "fnArea", fn := fun _ => fun
  | [d] => { results := [.lit (.bool true)], args := [d] }
  | _ => none }
def fnAreaRow : OpenClaim := { program := "ythcgoncgbhphiab", sum := "ed8e78680c095268b8f08822a217b672a096405233f041d0ad6ab4d7e76e0e97", func := "loop.example/reliefmaps/laws.FnArea", spec := "fnArea", unfollowed := true, recurses := true, apart := false }
def FnAreaSaid : Prop := fnAreaRow.holds Try.pinned (OpenSpec.ofChange fnAreaSpec)

/-- ITS FALSE NEIGHBOUR: 'it returns false'. Refute it at one input. -/
def fnAreaWrong : ChangeSpec := { name := "fnArea", fn := fun _ => fun
  | [d] => { results := [.lit (.bool false)], args := [d] }
  | _ => none }
def FnAreaWrongFalsely : Prop := fnAreaRow.holds Try.pinned (OpenSpec.ofChange fnAreaWrong)

/-- 'laws.FnWhole': WHATEVER THE INPUT: true; the input reads as it did. -/
def fnWholeSpec : ChangeSpec := { name := "fnWhole", fn := fun _ => fun
  | [d] => { results := [.lit (.bool true)], args := [d] }
  | _ => none }
def fnWholeRow : OpenClaim := { program := "ythcgoncgbhphiab", sum := "ed8e78680c095268b8f08822a217b672a096405233f041d0ad6ab4d7e76e0e97", func := "loop.example/reliefmaps/laws.FnWhole", spec := "fnWhole", unfollowed := true, recurses := true, apart := false }
def FnWholeSaid : Prop := fnWholeRow.holds Try.pinned (OpenSpec.ofChange fnWholeSpec)

/-- ITS FALSE NEIGHBOUR: 'it returns false'. Refute it at one input. -/
def fnWholeWrong : ChangeSpec := { name := "fnWhole", fn := fun _ => fun
  | [d] => { results := [.lit (.bool false)], args := [d] }
  | _ => none }
def FnWholeWrongFalsely : Prop := fnWholeRow.holds Try.pinned (OpenSpec.ofChange fnWholeWrong)

/- THE SECOND FORM. 'bulk': how many values and letters a reading holds, each counted each time it is reached (what is shared counts as often as it is met; a slice's spare places count too). A statement '..UptoSaid' is the law's where the arguments, and the package variables that the reading takes, are together of bulk at most 1048576: NARROWER than '..Said'. Prove '..Said' where nothing that the law and all that it calls make is longer than what came in: it says more and counts as full. Else prove '..UptoSaid'. A law counts once. -/
mutual
def uptoBulk {H : Type} : DataW H → Nat
  | .lit (.string bytes) => bytes.length + 1
  | .lit _ => 1
  | .nil => 1
  | .ptr d => uptoBulk d + 1
  | .slice elems spare => uptoBulkAll elems + uptoBulkAll spare + 1
  | .agg parts => uptoBulkAll parts + 1
  | .iface _ d => uptoBulk d + 1
  | .map entries => uptoBulkEntries entries + 1
  | .held _ => 1
def uptoBulkAll {H : Type} : List (DataW H) → Nat
  | [] => 0
  | d :: r => uptoBulk d + uptoBulkAll r
def uptoBulkEntries {H : Type} : List (Lit × DataW H) → Nat
  | [] => 0
  | x :: r => uptoBulkEntry x + uptoBulkEntries r
def uptoBulkEntry {H : Type} : Lit × DataW H → Nat
  | (.string bytes, d) => bytes.length + uptoBulk d + 1
  | (_, d) => uptoBulk d + 1
 end
def uptoSmall : (H : Type) → List (DataW H) → Bool := fun _ ds => decide (uptoBulkAll ds ≤ 1048576)
def OpenSpec.upto (s : _root_.Go.ChangeSpec) : _root_.Go.OpenSpec := { _root_.Go.OpenSpec.ofChange s with cond := some uptoSmall }

/-- 'laws.FnExactLevelRegions', WHERE WHAT IT READS IS OF BULK AT MOST 1048576: true; the input reads as it did. -/
def fnExactLevelRegionsUptoRow : OpenClaim := { program := "ythcgoncgbhphiab", sum := "ed8e78680c095268b8f08822a217b672a096405233f041d0ad6ab4d7e76e0e97", func := "loop.example/reliefmaps/laws.FnExactLevelRegions", spec := "fnExactLevelRegions", unfollowed := true, recurses := true, apart := false, narrowed := true }
def FnExactLevelRegionsUptoSaid : Prop := fnExactLevelRegionsUptoRow.holds Try.pinned (OpenSpec.upto fnExactLevelRegionsSpec)

/-- 'laws.FnExactLevelNumbers', WHERE WHAT IT READS IS OF BULK AT MOST 1048576: true; the input reads as it did. -/
def fnExactLevelNumbersUptoRow : OpenClaim := { program := "ythcgoncgbhphiab", sum := "ed8e78680c095268b8f08822a217b672a096405233f041d0ad6ab4d7e76e0e97", func := "loop.example/reliefmaps/laws.FnExactLevelNumbers", spec := "fnExactLevelNumbers", unfollowed := true, recurses := true, apart := false, narrowed := true }
def FnExactLevelNumbersUptoSaid : Prop := fnExactLevelNumbersUptoRow.holds Try.pinned (OpenSpec.upto fnExactLevelNumbersSpec)

/-- 'laws.FnExactLevelArea', WHERE WHAT IT READS IS OF BULK AT MOST 1048576: true; the input reads as it did. -/
def fnExactLevelAreaUptoRow : OpenClaim := { program := "ythcgoncgbhphiab", sum := "ed8e78680c095268b8f08822a217b672a096405233f041d0ad6ab4d7e76e0e97", func := "loop.example/reliefmaps/laws.FnExactLevelArea", spec := "fnExactLevelArea", unfollowed := true, recurses := true, apart := false, narrowed := true }
def FnExactLevelAreaUptoSaid : Prop := fnExactLevelAreaUptoRow.holds Try.pinned (OpenSpec.upto fnExactLevelAreaSpec)

/-- 'laws.FnExactLevelWhole', WHERE WHAT IT READS IS OF BULK AT MOST 1048576: true; the input reads as it did. -/
def fnExactLevelWholeUptoRow : OpenClaim := { program := "ythcgoncgbhphiab", sum := "ed8e78680c095268b8f08822a217b672a096405233f041d0ad6ab4d7e76e0e97", func := "loop.example/reliefmaps/laws.FnExactLevelWhole", spec := "fnExactLevelWhole", unfollowed := true, recurses := true, apart := false, narrowed := true }
def FnExactLevelWholeUptoSaid : Prop := fnExactLevelWholeUptoRow.holds Try.pinned (OpenSpec.upto fnExactLevelWholeSpec)

/-- 'laws.FnExactLevelInside', WHERE WHAT IT READS IS OF BULK AT MOST 1048576: true; the input reads as it did. -/
def fnExactLevelInsideUptoRow : OpenClaim := { program := "ythcgoncgbhphiab", sum := "ed8e78680c095268b8f08822a217b672a096405233f041d0ad6ab4d7e76e0e97", func := "loop.example/reliefmaps/laws.FnExactLevelInside", spec := "fnExactLevelInside", unfollowed := true, recurses := true, apart := false, narrowed := true }
def FnExactLevelInsideUptoSaid : Prop := fnExactLevelInsideUptoRow.holds Try.pinned (OpenSpec.upto fnExactLevelInsideSpec)

/-- 'laws.FnRegions', WHERE WHAT IT READS IS OF BULK AT MOST 1048576: true; the input reads as it did. -/
def fnRegionsUptoRow : OpenClaim := { program := "ythcgoncgbhphiab", sum := "ed8e78680c095268b8f08822a217b672a096405233f041d0ad6ab4d7e76e0e97", func := "loop.example/reliefmaps/laws.FnRegions", spec := "fnRegions", unfollowed := true, recurses := true, apart := false, narrowed := true }
def FnRegionsUptoSaid : Prop := fnRegionsUptoRow.holds Try.pinned (OpenSpec.upto fnRegionsSpec)

/-- 'laws.FnArea', WHERE WHAT IT READS IS OF BULK AT MOST 1048576: true; the input reads as it did. -/
def fnAreaUptoRow : OpenClaim := { program := "ythcgoncgbhphiab", sum := "ed8e78680c095268b8f08822a217b672a096405233f041d0ad6ab4d7e76e0e97", func := "loop.example/reliefmaps/laws.FnArea", spec := "fnArea", unfollowed := true, recurses := true, apart := false, narrowed := true }
def FnAreaUptoSaid : Prop := fnAreaUptoRow.holds Try.pinned (OpenSpec.upto fnAreaSpec)

/-- 'laws.FnWhole', WHERE WHAT IT READS IS OF BULK AT MOST 1048576: true; the input reads as it did. -/
def fnWholeUptoRow : OpenClaim := { program := "ythcgoncgbhphiab", sum := "ed8e78680c095268b8f08822a217b672a096405233f041d0ad6ab4d7e76e0e97", func := "loop.example/reliefmaps/laws.FnWhole", spec := "fnWhole", unfollowed := true, recurses := true, apart := false, narrowed := true }
def FnWholeUptoSaid : Prop := fnWholeUptoRow.holds Try.pinned (OpenSpec.upto fnWholeSpec)

end Rows
end Go.Proofs.Ythcgoncgbhphiab
