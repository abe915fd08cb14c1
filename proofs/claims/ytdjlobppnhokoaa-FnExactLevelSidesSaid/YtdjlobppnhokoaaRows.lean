/-
  No cell of these rows narrows 'for every input' (looked for: loops, veiled, ifaces, maps, wideKeys, modest, calm, conditions, laid).
  DERIVED. THE GIVEN ROWS OF THIS SEAT. 12 by the template 'for every input the law returns true; each argument reads behind the call as it read before'; 0 by the template 'total and deterministic' (their statements: YtdjlobppnhokoaaTotals.lean).
  GIVEN WITH THE SEED: the statements are not yours to turn. If you find one false, say at which input.
  Laid BY PROGRAM, IN A SANDBOX (cutbox-rows.mjs): the forced cells as the released guide's own fill.sh prints them over the translation e9d96195dcea5cb3… (all of the seat's roots in one cut). By AI agents, Wed Nov 11 2026. No macro, syntax, notation, axiom, sorry.
-/
import Derived.Test.YtdjlobppnhokoaaChecked
import GoSem.Claim
import GoSem.ClaimJoined
import GoSem.ClaimMapViews
import Derived.JoinedTies
import Derived.KernelRfl
namespace Go.Proofs.Ytdjlobppnhokoaa
/- THE CELL 'sum', in the pinned program and in every row, IS THE sha256 OF THE DUMP (.gsa) THAT YtdjlobppnhokoaaProg.lean LOADS. Nothing in Lean hashes anything: it is a label: what it is worth is what the hold of that sum in a sandbox is worth. -/
noncomputable def Try.pinned : Pinned := { name := "ytdjlobppnhokoaa", sum := "e9d96195dcea5cb346d3a187f06c13d1767f4218d2331ac4ce40d7d2c72a75d1", checked := Try.checked }
namespace Rows
def none {H : Type} : Left H := { results := [], args := [] }

/-- 'laws.FnExactLevelLand': WHATEVER THE INPUT: true; the input reads as it did. -/
def fnExactLevelLandSpec : ChangeSpec := { name := "fnExactLevelLand", fn := fun _ => fun
  | [d1, d2] => { results := [.lit (.bool true)], args := [d1, d2] }
  | _ => none }
def fnExactLevelLandRow : OpenClaim := { program := "ytdjlobppnhokoaa", sum := "e9d96195dcea5cb346d3a187f06c13d1767f4218d2331ac4ce40d7d2c72a75d1", func := "loop.example/reliefmaps/laws.FnExactLevelLand", spec := "fnExactLevelLand", unfollowed := true, recurses := true, apart := false }
def FnExactLevelLandSaid : Prop := fnExactLevelLandRow.holds Try.pinned (OpenSpec.ofChange fnExactLevelLandSpec)

/-- ITS FALSE NEIGHBOUR: 'it returns false'. Refute it at one input. -/
def fnExactLevelLandWrong : ChangeSpec := { name := "fnExactLevelLand", fn := fun _ => fun
  | [d1, d2] => { results := [.lit (.bool false)], args := [d1, d2] }
  | _ => none }
def FnExactLevelLandWrongFalsely : Prop := fnExactLevelLandRow.holds Try.pinned (OpenSpec.ofChange fnExactLevelLandWrong)

/-- 'laws.FnExactLevelRegions': WHATEVER THE INPUT: true; the input reads as it did. -/
def fnExactLevelRegionsSpec : ChangeSpec := { name := "fnExactLevelRegions", fn := fun _ => fun
  | [d1, d2] => { results := [.lit (.bool true)], args := [d1, d2] }
  | _ => none }
def fnExactLevelRegionsRow : OpenClaim := { program := "ytdjlobppnhokoaa", sum := "e9d96195dcea5cb346d3a187f06c13d1767f4218d2331ac4ce40d7d2c72a75d1", func := "loop.example/reliefmaps/laws.FnExactLevelRegions", spec := "fnExactLevelRegions", unfollowed := true, recurses := true, apart := false }
def FnExactLevelRegionsSaid : Prop := fnExactLevelRegionsRow.holds Try.pinned (OpenSpec.ofChange fnExactLevelRegionsSpec)

/-- ITS FALSE NEIGHBOUR: 'it returns false'. Refute it at one input. -/
def fnExactLevelRegionsWrong : ChangeSpec := { name := "fnExactLevelRegions", fn := fun _ => fun
  | [d1, d2] => { results := [.lit (.bool false)], args := [d1, d2] }
  | _ => none }
def FnExactLevelRegionsWrongFalsely : Prop := fnExactLevelRegionsRow.holds Try.pinned (OpenSpec.ofChange fnExactLevelRegionsWrong)

/-- 'laws.FnExactLevelNumbers': WHATEVER THE INPUT: true; the input reads as it did. -/
def fnExactLevelNumbersSpec : ChangeSpec := { name := "fnExactLevelNumbers", fn := fun _ => fun
  | [d1, d2] => { results := [.lit (.bool true)], args := [d1, d2] }
  | _ => none }
def fnExactLevelNumbersRow : OpenClaim := { program := "ytdjlobppnhokoaa", sum := "e9d96195dcea5cb346d3a187f06c13d1767f4218d2331ac4ce40d7d2c72a75d1", func := "loop.example/reliefmaps/laws.FnExactLevelNumbers", spec := "fnExactLevelNumbers", unfollowed := true, recurses := true, apart := false }
def FnExactLevelNumbersSaid : Prop := fnExactLevelNumbersRow.holds Try.pinned (OpenSpec.ofChange fnExactLevelNumbersSpec)

/-- ITS FALSE NEIGHBOUR: 'it returns false'. Refute it at one input. -/
def fnExactLevelNumbersWrong : ChangeSpec := { name := "fnExactLevelNumbers", fn := fun _ => fun
  | [d1, d2] => { results := [.lit (.bool false)], args := [d1, d2] }
  | _ => none }
def FnExactLevelNumbersWrongFalsely : Prop := fnExactLevelNumbersRow.holds Try.pinned (OpenSpec.ofChange fnExactLevelNumbersWrong)

/-- 'laws.FnExactLevelArea': WHATEVER THE INPUT: true; the input reads as it did. -/
def fnExactLevelAreaSpec : ChangeSpec := { name := "fnExactLevelArea", fn := fun _ => fun
  | [d1, d2, d3] => { results := [.lit (.bool true)], args := [d1, d2, d3] }
  | _ => none }
def fnExactLevelAreaRow : OpenClaim := { program := "ytdjlobppnhokoaa", sum := "e9d96195dcea5cb346d3a187f06c13d1767f4218d2331ac4ce40d7d2c72a75d1", func := "loop.example/reliefmaps/laws.FnExactLevelArea", spec := "fnExactLevelArea", unfollowed := true, recurses := true, apart := false }
def FnExactLevelAreaSaid : Prop := fnExactLevelAreaRow.holds Try.pinned (OpenSpec.ofChange fnExactLevelAreaSpec)

/-- ITS FALSE NEIGHBOUR: 'it returns false'. Refute it at one input. -/
def fnExactLevelAreaWrong : ChangeSpec := { name := "fnExactLevelArea", fn := fun _ => fun
  | [d1, d2, d3] => { results := [.lit (.bool false)], args := [d1, d2, d3] }
  | _ => none }
def FnExactLevelAreaWrongFalsely : Prop := fnExactLevelAreaRow.holds Try.pinned (OpenSpec.ofChange fnExactLevelAreaWrong)

/-- 'laws.FnExactLevelLakes': WHATEVER THE INPUT: true; the input reads as it did. -/
def fnExactLevelLakesSpec : ChangeSpec := { name := "fnExactLevelLakes", fn := fun _ => fun
  | [d1, d2] => { results := [.lit (.bool true)], args := [d1, d2] }
  | _ => none }
def fnExactLevelLakesRow : OpenClaim := { program := "ytdjlobppnhokoaa", sum := "e9d96195dcea5cb346d3a187f06c13d1767f4218d2331ac4ce40d7d2c72a75d1", func := "loop.example/reliefmaps/laws.FnExactLevelLakes", spec := "fnExactLevelLakes", unfollowed := true, recurses := true, apart := false }
def FnExactLevelLakesSaid : Prop := fnExactLevelLakesRow.holds Try.pinned (OpenSpec.ofChange fnExactLevelLakesSpec)

/-- ITS FALSE NEIGHBOUR: 'it returns false'. Refute it at one input. -/
def fnExactLevelLakesWrong : ChangeSpec := { name := "fnExactLevelLakes", fn := fun _ => fun
  | [d1, d2] => { results := [.lit (.bool false)], args := [d1, d2] }
  | _ => none }
def FnExactLevelLakesWrongFalsely : Prop := fnExactLevelLakesRow.holds Try.pinned (OpenSpec.ofChange fnExactLevelLakesWrong)

/-- 'laws.FnExactLevelShore': WHATEVER THE INPUT: true; the input reads as it did. -/
def fnExactLevelShoreSpec : ChangeSpec := { name := "fnExactLevelShore", fn := fun _ => fun
  | [d1, d2] => { results := [.lit (.bool true)], args := [d1, d2] }
  | _ => none }
def fnExactLevelShoreRow : OpenClaim := { program := "ytdjlobppnhokoaa", sum := "e9d96195dcea5cb346d3a187f06c13d1767f4218d2331ac4ce40d7d2c72a75d1", func := "loop.example/reliefmaps/laws.FnExactLevelShore", spec := "fnExactLevelShore", unfollowed := true, recurses := true, apart := false }
def FnExactLevelShoreSaid : Prop := fnExactLevelShoreRow.holds Try.pinned (OpenSpec.ofChange fnExactLevelShoreSpec)

/-- ITS FALSE NEIGHBOUR: 'it returns false'. Refute it at one input. -/
def fnExactLevelShoreWrong : ChangeSpec := { name := "fnExactLevelShore", fn := fun _ => fun
  | [d1, d2] => { results := [.lit (.bool false)], args := [d1, d2] }
  | _ => none }
def FnExactLevelShoreWrongFalsely : Prop := fnExactLevelShoreRow.holds Try.pinned (OpenSpec.ofChange fnExactLevelShoreWrong)

/-- 'laws.FnExactLevelCorners': WHATEVER THE INPUT: true; the input reads as it did. -/
def fnExactLevelCornersSpec : ChangeSpec := { name := "fnExactLevelCorners", fn := fun _ => fun
  | [d1, d2] => { results := [.lit (.bool true)], args := [d1, d2] }
  | _ => none }
def fnExactLevelCornersRow : OpenClaim := { program := "ytdjlobppnhokoaa", sum := "e9d96195dcea5cb346d3a187f06c13d1767f4218d2331ac4ce40d7d2c72a75d1", func := "loop.example/reliefmaps/laws.FnExactLevelCorners", spec := "fnExactLevelCorners", unfollowed := true, recurses := true, apart := false }
def FnExactLevelCornersSaid : Prop := fnExactLevelCornersRow.holds Try.pinned (OpenSpec.ofChange fnExactLevelCornersSpec)

/-- ITS FALSE NEIGHBOUR: 'it returns false'. Refute it at one input. -/
def fnExactLevelCornersWrong : ChangeSpec := { name := "fnExactLevelCorners", fn := fun _ => fun
  | [d1, d2] => { results := [.lit (.bool false)], args := [d1, d2] }
  | _ => none }
def FnExactLevelCornersWrongFalsely : Prop := fnExactLevelCornersRow.holds Try.pinned (OpenSpec.ofChange fnExactLevelCornersWrong)

/-- 'laws.FnExactLevelSides': WHATEVER THE INPUT: true; the input reads as it did. -/
def fnExactLevelSidesSpec : ChangeSpec := { name := "fnExactLevelSides", fn := fun _ => fun
  | [d1, d2] => { results := [.lit (.bool true)], args := [d1, d2] }
  | _ => none }
def fnExactLevelSidesRow : OpenClaim := { program := "ytdjlobppnhokoaa", sum := "e9d96195dcea5cb346d3a187f06c13d1767f4218d2331ac4ce40d7d2c72a75d1", func := "loop.example/reliefmaps/laws.FnExactLevelSides", spec := "fnExactLevelSides", unfollowed := true, recurses := true, apart := false }
def FnExactLevelSidesSaid : Prop := fnExactLevelSidesRow.holds Try.pinned (OpenSpec.ofChange fnExactLevelSidesSpec)

/-- ITS FALSE NEIGHBOUR: 'it returns false'. Refute it at one input. -/
def fnExactLevelSidesWrong : ChangeSpec := { name := "fnExactLevelSides", fn := fun _ => fun
  | [d1, d2] => { results := [.lit (.bool false)], args := [d1, d2] }
  | _ => none }
def FnExactLevelSidesWrongFalsely : Prop := fnExactLevelSidesRow.holds Try.pinned (OpenSpec.ofChange fnExactLevelSidesWrong)

/-- 'laws.FnExactLevelEuler': WHATEVER THE INPUT: true; the input reads as it did. -/
def fnExactLevelEulerSpec : ChangeSpec := { name := "fnExactLevelEuler", fn := fun _ => fun
  | [d1, d2] => { results := [.lit (.bool true)], args := [d1, d2] }
  | _ => none }
def fnExactLevelEulerRow : OpenClaim := { program := "ytdjlobppnhokoaa", sum := "e9d96195dcea5cb346d3a187f06c13d1767f4218d2331ac4ce40d7d2c72a75d1", func := "loop.example/reliefmaps/laws.FnExactLevelEuler", spec := "fnExactLevelEuler", unfollowed := true, recurses := true, apart := false }
def FnExactLevelEulerSaid : Prop := fnExactLevelEulerRow.holds Try.pinned (OpenSpec.ofChange fnExactLevelEulerSpec)

/-- ITS FALSE NEIGHBOUR: 'it returns false'. Refute it at one input. -/
def fnExactLevelEulerWrong : ChangeSpec := { name := "fnExactLevelEuler", fn := fun _ => fun
  | [d1, d2] => { results := [.lit (.bool false)], args := [d1, d2] }
  | _ => none }
def FnExactLevelEulerWrongFalsely : Prop := fnExactLevelEulerRow.holds Try.pinned (OpenSpec.ofChange fnExactLevelEulerWrong)

/-- 'laws.FnExactLevelGreatest': WHATEVER THE INPUT: true; the input reads as it did. -/
def fnExactLevelGreatestSpec : ChangeSpec := { name := "fnExactLevelGreatest", fn := fun _ => fun
  | [d] => { results := [.lit (.bool true)], args := [d] }
  | _ => none }
def fnExactLevelGreatestRow : OpenClaim := { program := "ytdjlobppnhokoaa", sum := "e9d96195dcea5cb346d3a187f06c13d1767f4218d2331ac4ce40d7d2c72a75d1", func := "loop.example/reliefmaps/laws.FnExactLevelGreatest", spec := "fnExactLevelGreatest", unfollowed := true, recurses := true, apart := false }
def FnExactLevelGreatestSaid : Prop := fnExactLevelGreatestRow.holds Try.pinned (OpenSpec.ofChange fnExactLevelGreatestSpec)

/-- ITS FALSE NEIGHBOUR: 'it returns false'. Refute it at one input. -/
def fnExactLevelGreatestWrong : ChangeSpec := { name := "fnExactLevelGreatest", fn := fun _ => fun
  | [d] => { results := [.lit (.bool false)], args := [d] }
  | _ => none }
def FnExactLevelGreatestWrongFalsely : Prop := fnExactLevelGreatestRow.holds Try.pinned (OpenSpec.ofChange fnExactLevelGreatestWrong)

/-- 'laws.FnExactLevelWhole': WHATEVER THE INPUT: true; the input reads as it did. -/
def fnExactLevelWholeSpec : ChangeSpec := { name := "fnExactLevelWhole", fn := fun _ => fun
  | [d] => { results := [.lit (.bool true)], args := [d] }
  | _ => none }
def fnExactLevelWholeRow : OpenClaim := { program := "ytdjlobppnhokoaa", sum := "e9d96195dcea5cb346d3a187f06c13d1767f4218d2331ac4ce40d7d2c72a75d1", func := "loop.example/reliefmaps/laws.FnExactLevelWhole", spec := "fnExactLevelWhole", unfollowed := true, recurses := true, apart := false }
def FnExactLevelWholeSaid : Prop := fnExactLevelWholeRow.holds Try.pinned (OpenSpec.ofChange fnExactLevelWholeSpec)

/-- ITS FALSE NEIGHBOUR: 'it returns false'. Refute it at one input. -/
def fnExactLevelWholeWrong : ChangeSpec := { name := "fnExactLevelWhole", fn := fun _ => fun
  | [d] => { results := [.lit (.bool false)], args := [d] }
  | _ => none }
def FnExactLevelWholeWrongFalsely : Prop := fnExactLevelWholeRow.holds Try.pinned (OpenSpec.ofChange fnExactLevelWholeWrong)

/-- 'laws.FnExactLevelInside': WHATEVER THE INPUT: true; the input reads as it did. -/
def fnExactLevelInsideSpec : ChangeSpec := { name := "fnExactLevelInside", fn := fun _ => fun
  | [d1, d2, d3] => { results := [.lit (.bool true)], args := [d1, d2, d3] }
  | _ => none }
def fnExactLevelInsideRow : OpenClaim := { program := "ytdjlobppnhokoaa", sum := "e9d96195dcea5cb346d3a187f06c13d1767f4218d2331ac4ce40d7d2c72a75d1", func := "loop.example/reliefmaps/laws.FnExactLevelInside", spec := "fnExactLevelInside", unfollowed := true, recurses := true, apart := false }
def FnExactLevelInsideSaid : Prop := fnExactLevelInsideRow.holds Try.pinned (OpenSpec.ofChange fnExactLevelInsideSpec)

/-- ITS FALSE NEIGHBOUR: 'it returns false'. Refute it at one input. -/
def fnExactLevelInsideWrong : ChangeSpec := { name := "fnExactLevelInside", fn := fun _ => fun
  | [d1, d2, d3] => { results := [.lit (.bool false)], args := [d1, d2, d3] }
  | _ => none }
def FnExactLevelInsideWrongFalsely : Prop := fnExactLevelInsideRow.holds Try.pinned (OpenSpec.ofChange fnExactLevelInsideWrong)

/- THE SECOND FORM. 'bulk': how many values and letters a reading holds, each counted each time it is reached (what is shared counts as often as it is met; a slice's spare places count too). A statement '..UptoSaid' is the law's where the arguments, and the package variables that the reading takes, are together of bulk at most 1048576: NARROWER than '..Said'. Prove '..Said' where nothing that the law and all that it calls make is longer than what came in: it says more and counts as full. Else prove '..UptoSaid'. A law counts once. -/
mutual
def uptoBulk {H : Type} : DataW H → Nat
  | .lit (.string bytes) => bytes.length + 1
  | .lit _ => 1
  | .nil => 1
  | .ptr d => uptoBulk d + 1
  | .slice elems spare => uptoBulkAll elems + uptoBulkAll spare + 1
  | .agg parts => uptoBulkAll parts + 1
  | .iface _ d => uptoBulk d + 1
  | .map entries => uptoBulkEntries entries + 1
  | .held _ => 1
def uptoBulkAll {H : Type} : List (DataW H) → Nat
  | [] => 0
  | d :: r => uptoBulk d + uptoBulkAll r
def uptoBulkEntries {H : Type} : List (Lit × DataW H) → Nat
  | [] => 0
  | x :: r => uptoBulkEntry x + uptoBulkEntries r
def uptoBulkEntry {H : Type} : Lit × DataW H → Nat
  | (.string bytes, d) => bytes.length + uptoBulk d + 1
  | (_, d) => uptoBulk d + 1
 end
def uptoSmall : (H : Type) → List (DataW H) → Bool := fun _ ds => decide (uptoBulkAll ds ≤ 1048576)
def OpenSpec.upto (s : _root_.Go.ChangeSpec) : _root_.Go.OpenSpec := { _root_.Go.OpenSpec.ofChange s with cond := some uptoSmall }

/-- 'laws.FnExactLevelLand', WHERE WHAT IT READS IS OF BULK AT MOST 1048576: true; the input reads as it did. -/
def fnExactLevelLandUptoRow : OpenClaim := { program := "ytdjlobppnhokoaa", sum := "e9d96195dcea5cb346d3a187f06c13d1767f4218d2331ac4ce40d7d2c72a75d1", func := "loop.example/reliefmaps/laws.FnExactLevelLand", spec := "fnExactLevelLand", unfollowed := true, recurses := true, apart := false, narrowed := true }
def FnExactLevelLandUptoSaid : Prop := fnExactLevelLandUptoRow.holds Try.pinned (OpenSpec.upto fnExactLevelLandSpec)

/-- 'laws.FnExactLevelRegions', WHERE WHAT IT READS IS OF BULK AT MOST 1048576: true; the input reads as it did. -/
def fnExactLevelRegionsUptoRow : OpenClaim := { program := "ytdjlobppnhokoaa", sum := "e9d96195dcea5cb346d3a187f06c13d1767f4218d2331ac4ce40d7d2c72a75d1", func := "loop.example/reliefmaps/laws.FnExactLevelRegions", spec := "fnExactLevelRegions", unfollowed := true, recurses := true, apart := false, narrowed := true }
def FnExactLevelRegionsUptoSaid : Prop := fnExactLevelRegionsUptoRow.holds Try.pinned (OpenSpec.upto fnExactLevelRegionsSpec)

/-- 'laws.FnExactLevelNumbers', WHERE WHAT IT READS IS OF BULK AT MOST 1048576: true; the input reads as it did. -/
def fnExactLevelNumbersUptoRow : OpenClaim := { program := "ytdjlobppnhokoaa", sum := "e9d96195dcea5cb346d3a187f06c13d1767f4218d2331ac4ce40d7d2c72a75d1", func := "loop.example/reliefmaps/laws.FnExactLevelNumbers", spec := "fnExactLevelNumbers", unfollowed := true, recurses := true, apart := false, narrowed := true }
def FnExactLevelNumbersUptoSaid : Prop := fnExactLevelNumbersUptoRow.holds Try.pinned (OpenSpec.upto fnExactLevelNumbersSpec)

/-- 'laws.FnExactLevelArea', WHERE WHAT IT READS IS OF BULK AT MOST 1048576: true; the input reads as it did. -/
def fnExactLevelAreaUptoRow : OpenClaim := { program := "ytdjlobppnhokoaa", sum := "e9d96195dcea5cb346d3a187f06c13d1767f4218d2331ac4ce40d7d2c72a75d1", func := "loop.example/reliefmaps/laws.FnExactLevelArea", spec := "fnExactLevelArea", unfollowed := true, recurses := true, apart := false, narrowed := true }
def FnExactLevelAreaUptoSaid : Prop := fnExactLevelAreaUptoRow.holds Try.pinned (OpenSpec.upto fnExactLevelAreaSpec)

/-- 'laws.FnExactLevelLakes', WHERE WHAT IT READS IS OF BULK AT MOST 1048576: true; the input reads as it did. -/
def fnExactLevelLakesUptoRow : OpenClaim := { program := "ytdjlobppnhokoaa", sum := "e9d96195dcea5cb346d3a187f06c13d1767f4218d2331ac4ce40d7d2c72a75d1", func := "loop.example/reliefmaps/laws.FnExactLevelLakes", spec := "fnExactLevelLakes", unfollowed := true, recurses := true, apart := false, narrowed := true }
def FnExactLevelLakesUptoSaid : Prop := fnExactLevelLakesUptoRow.holds Try.pinned (OpenSpec.upto fnExactLevelLakesSpec)

/-- 'laws.FnExactLevelShore', WHERE WHAT IT READS IS OF BULK AT MOST 1048576: true; the input reads as it did. -/
def fnExactLevelShoreUptoRow : OpenClaim := { program := "ytdjlobppnhokoaa", sum := "e9d96195dcea5cb346d3a187f06c13d1767f4218d2331ac4ce40d7d2c72a75d1", func := "loop.example/reliefmaps/laws.FnExactLevelShore", spec := "fnExactLevelShore", unfollowed := true, recurses := true, apart := false, narrowed := true }
def FnExactLevelShoreUptoSaid : Prop := fnExactLevelShoreUptoRow.holds Try.pinned (OpenSpec.upto fnExactLevelShoreSpec)

/-- 'laws.FnExactLevelCorners', WHERE WHAT IT READS IS OF BULK AT MOST 1048576: true; the input reads as it did. -/
def fnExactLevelCornersUptoRow : OpenClaim := { program := "ytdjlobppnhokoaa", sum := "e9d96195dcea5cb346d3a187f06c13d1767f4218d2331ac4ce40d7d2c72a75d1", func := "loop.example/reliefmaps/laws.FnExactLevelCorners", spec := "fnExactLevelCorners", unfollowed := true, recurses := true, apart := false, narrowed := true }
def FnExactLevelCornersUptoSaid : Prop := fnExactLevelCornersUptoRow.holds Try.pinned (OpenSpec.upto fnExactLevelCornersSpec)

/-- 'laws.FnExactLevelSides', WHERE WHAT IT READS IS OF BULK AT MOST 1048576: true; the input reads as it did. -/
def fnExactLevelSidesUptoRow : OpenClaim := { program := "ytdjlobppnhokoaa", sum := "e9d96195dcea5cb346d3a187f06c13d1767f4218d2331ac4ce40d7d2c72a75d1", func := "loop.example/reliefmaps/laws.FnExactLevelSides", spec := "fnExactLevelSides", unfollowed := true, recurses := true, apart := false, narrowed := true }
def FnExactLevelSidesUptoSaid : Prop := fnExactLevelSidesUptoRow.holds Try.pinned (OpenSpec.upto fnExactLevelSidesSpec)

/-- 'laws.FnExactLevelEuler', WHERE WHAT IT READS IS OF BULK AT MOST 1048576: true; the input reads as it did. -/
def fnExactLevelEulerUptoRow : OpenClaim := { program := "ytdjlobppnhokoaa", sum := "e9d96195dcea5cb346d3a187f06c13d1767f4218d2331ac4ce40d7d2c72a75d1", func := "loop.example/reliefmaps/laws.FnExactLevelEuler", spec := "fnExactLevelEuler", unfollowed := true, recurses := true, apart := false, narrowed := true }
def FnExactLevelEulerUptoSaid : Prop := fnExactLevelEulerUptoRow.holds Try.pinned (OpenSpec.upto fnExactLevelEulerSpec)

/-- 'laws.FnExactLevelGreatest', WHERE WHAT IT READS IS OF BULK AT MOST 1048576: true; the input reads as it did. -/
def fnExactLevelGreatestUptoRow : OpenClaim := { program := "ytdjlobppnhokoaa", sum := "e9d96195dcea5cb346d3a187f06c13d1767f4218d2331ac4ce40d7d2c72a75d1", func := "loop.example/reliefmaps/laws.FnExactLevelGreatest", spec := "fnExactLevelGreatest", unfollowed := true, recurses := true, apart := false, narrowed := true }
def FnExactLevelGreatestUptoSaid : Prop := fnExactLevelGreatestUptoRow.holds Try.pinned (OpenSpec.upto fnExactLevelGreatestSpec)

/-- 'laws.FnExactLevelWhole', WHERE WHAT IT READS IS OF BULK AT MOST 1048576: true; the input reads as it did. -/
def fnExactLevelWholeUptoRow : OpenClaim := { program := "ytdjlobppnhokoaa", sum := "e9d96195dcea5cb346d3a187f06c13d1767f4218d2331ac4ce40d7d2c72a75d1", func := "loop.example/reliefmaps/laws.FnExactLevelWhole", spec := "fnExactLevelWhole", unfollowed := true, recurses := true, apart := false, narrowed := true }
def FnExactLevelWholeUptoSaid : Prop := fnExactLevelWholeUptoRow.holds Try.pinned (OpenSpec.upto fnExactLevelWholeSpec)

/-- 'laws.FnExactLevelInside', WHERE WHAT IT READS IS OF BULK AT MOST 1048576: true; the input reads as it did. -/
def fnExactLevelInsideUptoRow : OpenClaim := { program := "ytdjlobppnhokoaa", sum := "e9d96195dcea5cb346d3a187f06c13d1767f4218d2331ac4ce40d7d2c72a75d1", func := "loop.example/reliefmaps/laws.FnExactLevelInside", spec := "fnExactLevelInside", unfollowed := true, recurses := true, apart := false, narrowed := true }
def FnExactLevelInsideUptoSaid : Prop := fnExactLevelInsideUptoRow.holds Try.pinned (OpenSpec.upto fnExactLevelInsideSpec)

end Rows
end Go.Proofs.Ytdjlobppnhokoaa
