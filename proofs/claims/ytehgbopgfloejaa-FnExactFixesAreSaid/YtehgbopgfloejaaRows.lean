/-
  No cell of these rows narrows 'for every input' (looked for: loops, veiled, ifaces, maps, wideKeys, modest, calm, conditions, laid).
  DERIVED. THE GIVEN ROWS OF THIS SEAT. 12 by the template 'for every input the law returns true; each argument reads behind the call as it read before'; 0 by the template 'total and deterministic' (their statements: YtehgbopgfloejaaTotals.lean).
  GIVEN WITH THE SEED: the statements are not yours to turn. If you find one false, say at which input.
  Laid BY PROGRAM, IN A SANDBOX (cutbox-rows.mjs): the forced cells as the released guide's own fill.sh prints them over the translation a82398782d991bdc… (all of the seat's roots in one cut). By AI agents, Wed Nov 11 2026. No macro, syntax, notation, axiom, sorry.
-/
import Derived.Test.YtehgbopgfloejaaChecked
import GoSem.Claim
import GoSem.ClaimJoined
import GoSem.ClaimMapViews
import Derived.JoinedTies
import Derived.KernelRfl
namespace Go.Proofs.Ytehgbopgfloejaa
/- THE CELL 'sum', in the pinned program and in every row, IS THE sha256 OF THE DUMP (.gsa) THAT YtehgbopgfloejaaProg.lean LOADS. Nothing in Lean hashes anything: it is a label: what it is worth is what the hold of that sum in a sandbox is worth. -/
noncomputable def Try.pinned : Pinned := { name := "ytehgbopgfloejaa", sum := "a82398782d991bdc81b71637838cd98d1932e4651716188ad30b179d8c041c9f", checked := Try.checked }
namespace Rows
def none {H : Type} : Left H := { results := [], args := [] }

/-- 'laws.FnExactFixesDo': WHATEVER THE INPUT: true; the input reads as it did. -/
def fnExactFixesDoSpec : ChangeSpec := { name := "fnExactFixesDo", fn := fun _ => fun
  | [d1, d2] => { results := [.lit (.bool true)], args := [d1, d2] }
  | _ => none }
def fnExactFixesDoRow : OpenClaim := { program := "ytehgbopgfloejaa", sum := "a82398782d991bdc81b71637838cd98d1932e4651716188ad30b179d8c041c9f", func := "loop.example/reliefmaps/laws.FnExactFixesDo", spec := "fnExactFixesDo", unfollowed := true, recurses := true, apart := false }
def FnExactFixesDoSaid : Prop := fnExactFixesDoRow.holds Try.pinned (OpenSpec.ofChange fnExactFixesDoSpec)

/-- ITS FALSE NEIGHBOUR: 'it returns false'. Refute it at one input. -/
def fnExactFixesDoWrong : ChangeSpec := { name := "fnExactFixesDo", fn := fun _ => fun
  | [d1, d2] => { results := [.lit (.bool false)], args := [d1, d2] }
  | _ => none }
def FnExactFixesDoWrongFalsely : Prop := fnExactFixesDoRow.holds Try.pinned (OpenSpec.ofChange fnExactFixesDoWrong)

/-- 'laws.FnExactFixesValid': WHATEVER THE INPUT: true; the input reads as it did. -/
def fnExactFixesValidSpec : ChangeSpec := { name := "fnExactFixesValid", fn := fun _ => fun
  | [d1, d2] => { results := [.lit (.bool true)], args := [d1, d2] }
  | _ => none }
def fnExactFixesValidRow : OpenClaim := { program := "ytehgbopgfloejaa", sum := "a82398782d991bdc81b71637838cd98d1932e4651716188ad30b179d8c041c9f", func := "loop.example/reliefmaps/laws.FnExactFixesValid", spec := "fnExactFixesValid", unfollowed := true, recurses := true, apart := false }
def FnExactFixesValidSaid : Prop := fnExactFixesValidRow.holds Try.pinned (OpenSpec.ofChange fnExactFixesValidSpec)

/-- ITS FALSE NEIGHBOUR: 'it returns false'. Refute it at one input. -/
def fnExactFixesValidWrong : ChangeSpec := { name := "fnExactFixesValid", fn := fun _ => fun
  | [d1, d2] => { results := [.lit (.bool false)], args := [d1, d2] }
  | _ => none }
def FnExactFixesValidWrongFalsely : Prop := fnExactFixesValidRow.holds Try.pinned (OpenSpec.ofChange fnExactFixesValidWrong)

/-- 'laws.FnExactFixesBack': WHATEVER THE INPUT: true; the input reads as it did. -/
def fnExactFixesBackSpec : ChangeSpec := { name := "fnExactFixesBack", fn := fun _ => fun
  | [d1, d2] => { results := [.lit (.bool true)], args := [d1, d2] }
  | _ => none }
def fnExactFixesBackRow : OpenClaim := { program := "ytehgbopgfloejaa", sum := "a82398782d991bdc81b71637838cd98d1932e4651716188ad30b179d8c041c9f", func := "loop.example/reliefmaps/laws.FnExactFixesBack", spec := "fnExactFixesBack", unfollowed := true, recurses := true, apart := false }
def FnExactFixesBackSaid : Prop := fnExactFixesBackRow.holds Try.pinned (OpenSpec.ofChange fnExactFixesBackSpec)

/-- ITS FALSE NEIGHBOUR: 'it returns false'. Refute it at one input. -/
def fnExactFixesBackWrong : ChangeSpec := { name := "fnExactFixesBack", fn := fun _ => fun
  | [d1, d2] => { results := [.lit (.bool false)], args := [d1, d2] }
  | _ => none }
def FnExactFixesBackWrongFalsely : Prop := fnExactFixesBackRow.holds Try.pinned (OpenSpec.ofChange fnExactFixesBackWrong)

/-- 'laws.FnExactFixesMake': WHATEVER THE INPUT: true; the input reads as it did. -/
def fnExactFixesMakeSpec : ChangeSpec := { name := "fnExactFixesMake", fn := fun _ => fun
  | [d1, d2] => { results := [.lit (.bool true)], args := [d1, d2] }
  | _ => none }
def fnExactFixesMakeRow : OpenClaim := { program := "ytehgbopgfloejaa", sum := "a82398782d991bdc81b71637838cd98d1932e4651716188ad30b179d8c041c9f", func := "loop.example/reliefmaps/laws.FnExactFixesMake", spec := "fnExactFixesMake", unfollowed := true, recurses := true, apart := false }
def FnExactFixesMakeSaid : Prop := fnExactFixesMakeRow.holds Try.pinned (OpenSpec.ofChange fnExactFixesMakeSpec)

/-- ITS FALSE NEIGHBOUR: 'it returns false'. Refute it at one input. -/
def fnExactFixesMakeWrong : ChangeSpec := { name := "fnExactFixesMake", fn := fun _ => fun
  | [d1, d2] => { results := [.lit (.bool false)], args := [d1, d2] }
  | _ => none }
def FnExactFixesMakeWrongFalsely : Prop := fnExactFixesMakeRow.holds Try.pinned (OpenSpec.ofChange fnExactFixesMakeWrong)

/-- 'laws.FnExactFixesShort': WHATEVER THE INPUT: true; the input reads as it did. -/
def fnExactFixesShortSpec : ChangeSpec := { name := "fnExactFixesShort", fn := fun _ => fun
  | [d1, d2] => { results := [.lit (.bool true)], args := [d1, d2] }
  | _ => none }
def fnExactFixesShortRow : OpenClaim := { program := "ytehgbopgfloejaa", sum := "a82398782d991bdc81b71637838cd98d1932e4651716188ad30b179d8c041c9f", func := "loop.example/reliefmaps/laws.FnExactFixesShort", spec := "fnExactFixesShort", unfollowed := true, recurses := true, apart := false }
def FnExactFixesShortSaid : Prop := fnExactFixesShortRow.holds Try.pinned (OpenSpec.ofChange fnExactFixesShortSpec)

/-- ITS FALSE NEIGHBOUR: 'it returns false'. Refute it at one input. -/
def fnExactFixesShortWrong : ChangeSpec := { name := "fnExactFixesShort", fn := fun _ => fun
  | [d1, d2] => { results := [.lit (.bool false)], args := [d1, d2] }
  | _ => none }
def FnExactFixesShortWrongFalsely : Prop := fnExactFixesShortRow.holds Try.pinned (OpenSpec.ofChange fnExactFixesShortWrong)

/-- 'laws.FnExactFixesAre': WHATEVER THE INPUT: true; the input reads as it did. -/
def fnExactFixesAreSpec : ChangeSpec := { name := "fnExactFixesAre", fn := fun _ => fun
  | [d1, d2] => { results := [.lit (.bool true)], args := [d1, d2] }
  | _ => none }
def fnExactFixesAreRow : OpenClaim := { program := "ytehgbopgfloejaa", sum := "a82398782d991bdc81b71637838cd98d1932e4651716188ad30b179d8c041c9f", func := "loop.example/reliefmaps/laws.FnExactFixesAre", spec := "fnExactFixesAre", unfollowed := true, recurses := true, apart := false }
def FnExactFixesAreSaid : Prop := fnExactFixesAreRow.holds Try.pinned (OpenSpec.ofChange fnExactFixesAreSpec)

/-- ITS FALSE NEIGHBOUR: 'it returns false'. Refute it at one input. -/
def fnExactFixesAreWrong : ChangeSpec := { name := "fnExactFixesAre", fn := fun _ => fun
  | [d1, d2] => { results := [.lit (.bool false)], args := [d1, d2] }
  | _ => none }
def FnExactFixesAreWrongFalsely : Prop := fnExactFixesAreRow.holds Try.pinned (OpenSpec.ofChange fnExactFixesAreWrong)

/-- 'laws.FnExactFixesClash': WHATEVER THE INPUT: true; the input reads as it did. -/
def fnExactFixesClashSpec : ChangeSpec := { name := "fnExactFixesClash", fn := fun _ => fun
  | [d1, d2, d3] => { results := [.lit (.bool true)], args := [d1, d2, d3] }
  | _ => none }
def fnExactFixesClashRow : OpenClaim := { program := "ytehgbopgfloejaa", sum := "a82398782d991bdc81b71637838cd98d1932e4651716188ad30b179d8c041c9f", func := "loop.example/reliefmaps/laws.FnExactFixesClash", spec := "fnExactFixesClash", unfollowed := true, recurses := true, apart := false }
def FnExactFixesClashSaid : Prop := fnExactFixesClashRow.holds Try.pinned (OpenSpec.ofChange fnExactFixesClashSpec)

/-- ITS FALSE NEIGHBOUR: 'it returns false'. Refute it at one input. -/
def fnExactFixesClashWrong : ChangeSpec := { name := "fnExactFixesClash", fn := fun _ => fun
  | [d1, d2, d3] => { results := [.lit (.bool false)], args := [d1, d2, d3] }
  | _ => none }
def FnExactFixesClashWrongFalsely : Prop := fnExactFixesClashRow.holds Try.pinned (OpenSpec.ofChange fnExactFixesClashWrong)

/-- 'laws.FnExactFixesBoth': WHATEVER THE INPUT: true; the input reads as it did. -/
def fnExactFixesBothSpec : ChangeSpec := { name := "fnExactFixesBoth", fn := fun _ => fun
  | [d1, d2, d3] => { results := [.lit (.bool true)], args := [d1, d2, d3] }
  | _ => none }
def fnExactFixesBothRow : OpenClaim := { program := "ytehgbopgfloejaa", sum := "a82398782d991bdc81b71637838cd98d1932e4651716188ad30b179d8c041c9f", func := "loop.example/reliefmaps/laws.FnExactFixesBoth", spec := "fnExactFixesBoth", unfollowed := true, recurses := true, apart := false }
def FnExactFixesBothSaid : Prop := fnExactFixesBothRow.holds Try.pinned (OpenSpec.ofChange fnExactFixesBothSpec)

/-- ITS FALSE NEIGHBOUR: 'it returns false'. Refute it at one input. -/
def fnExactFixesBothWrong : ChangeSpec := { name := "fnExactFixesBoth", fn := fun _ => fun
  | [d1, d2, d3] => { results := [.lit (.bool false)], args := [d1, d2, d3] }
  | _ => none }
def FnExactFixesBothWrongFalsely : Prop := fnExactFixesBothRow.holds Try.pinned (OpenSpec.ofChange fnExactFixesBothWrong)

/-- 'laws.FnExactFixesCells': WHATEVER THE INPUT: true; the input reads as it did. -/
def fnExactFixesCellsSpec : ChangeSpec := { name := "fnExactFixesCells", fn := fun _ => fun
  | [d1, d2] => { results := [.lit (.bool true)], args := [d1, d2] }
  | _ => none }
def fnExactFixesCellsRow : OpenClaim := { program := "ytehgbopgfloejaa", sum := "a82398782d991bdc81b71637838cd98d1932e4651716188ad30b179d8c041c9f", func := "loop.example/reliefmaps/laws.FnExactFixesCells", spec := "fnExactFixesCells", unfollowed := true, recurses := true, apart := false }
def FnExactFixesCellsSaid : Prop := fnExactFixesCellsRow.holds Try.pinned (OpenSpec.ofChange fnExactFixesCellsSpec)

/-- ITS FALSE NEIGHBOUR: 'it returns false'. Refute it at one input. -/
def fnExactFixesCellsWrong : ChangeSpec := { name := "fnExactFixesCells", fn := fun _ => fun
  | [d1, d2] => { results := [.lit (.bool false)], args := [d1, d2] }
  | _ => none }
def FnExactFixesCellsWrongFalsely : Prop := fnExactFixesCellsRow.holds Try.pinned (OpenSpec.ofChange fnExactFixesCellsWrong)

/-- 'laws.FnExactFixesAt': WHATEVER THE INPUT: true; the input reads as it did. -/
def fnExactFixesAtSpec : ChangeSpec := { name := "fnExactFixesAt", fn := fun _ => fun
  | [d1, d2, d3, d4] => { results := [.lit (.bool true)], args := [d1, d2, d3, d4] }
  | _ => none }
def fnExactFixesAtRow : OpenClaim := { program := "ytehgbopgfloejaa", sum := "a82398782d991bdc81b71637838cd98d1932e4651716188ad30b179d8c041c9f", func := "loop.example/reliefmaps/laws.FnExactFixesAt", spec := "fnExactFixesAt", unfollowed := true, recurses := true, apart := false }
def FnExactFixesAtSaid : Prop := fnExactFixesAtRow.holds Try.pinned (OpenSpec.ofChange fnExactFixesAtSpec)

/-- ITS FALSE NEIGHBOUR: 'it returns false'. Refute it at one input. -/
def fnExactFixesAtWrong : ChangeSpec := { name := "fnExactFixesAt", fn := fun _ => fun
  | [d1, d2, d3, d4] => { results := [.lit (.bool false)], args := [d1, d2, d3, d4] }
  | _ => none }
def FnExactFixesAtWrongFalsely : Prop := fnExactFixesAtRow.holds Try.pinned (OpenSpec.ofChange fnExactFixesAtWrong)

/-- 'laws.FnExactFixesRise': WHATEVER THE INPUT: true; the input reads as it did. -/
def fnExactFixesRiseSpec : ChangeSpec := { name := "fnExactFixesRise", fn := fun _ => fun
  | [d1, d2] => { results := [.lit (.bool true)], args := [d1, d2] }
  | _ => none }
def fnExactFixesRiseRow : OpenClaim := { program := "ytehgbopgfloejaa", sum := "a82398782d991bdc81b71637838cd98d1932e4651716188ad30b179d8c041c9f", func := "loop.example/reliefmaps/laws.FnExactFixesRise", spec := "fnExactFixesRise", unfollowed := true, recurses := true, apart := false }
def FnExactFixesRiseSaid : Prop := fnExactFixesRiseRow.holds Try.pinned (OpenSpec.ofChange fnExactFixesRiseSpec)

/-- ITS FALSE NEIGHBOUR: 'it returns false'. Refute it at one input. -/
def fnExactFixesRiseWrong : ChangeSpec := { name := "fnExactFixesRise", fn := fun _ => fun
  | [d1, d2] => { results := [.lit (.bool false)], args := [d1, d2] }
  | _ => none }
def FnExactFixesRiseWrongFalsely : Prop := fnExactFixesRiseRow.holds Try.pinned (OpenSpec.ofChange fnExactFixesRiseWrong)

/-- 'laws.FnExactEditionFar': WHATEVER THE INPUT: true; the input reads as it did. -/
def fnExactEditionFarSpec : ChangeSpec := { name := "fnExactEditionFar", fn := fun _ => fun
  | [d1, d2] => { results := [.lit (.bool true)], args := [d1, d2] }
  | _ => none }
def fnExactEditionFarRow : OpenClaim := { program := "ytehgbopgfloejaa", sum := "a82398782d991bdc81b71637838cd98d1932e4651716188ad30b179d8c041c9f", func := "loop.example/reliefmaps/laws.FnExactEditionFar", spec := "fnExactEditionFar", unfollowed := true, recurses := true, apart := false }
def FnExactEditionFarSaid : Prop := fnExactEditionFarRow.holds Try.pinned (OpenSpec.ofChange fnExactEditionFarSpec)

/-- ITS FALSE NEIGHBOUR: 'it returns false'. Refute it at one input. -/
def fnExactEditionFarWrong : ChangeSpec := { name := "fnExactEditionFar", fn := fun _ => fun
  | [d1, d2] => { results := [.lit (.bool false)], args := [d1, d2] }
  | _ => none }
def FnExactEditionFarWrongFalsely : Prop := fnExactEditionFarRow.holds Try.pinned (OpenSpec.ofChange fnExactEditionFarWrong)

/- THE SECOND FORM. 'bulk': how many values and letters a reading holds, each counted each time it is reached (what is shared counts as often as it is met; a slice's spare places count too). A statement '..UptoSaid' is the law's where the arguments, and the package variables that the reading takes, are together of bulk at most 1048576: NARROWER than '..Said'. Prove '..Said' where nothing that the law and all that it calls make is longer than what came in: it says more and counts as full. Else prove '..UptoSaid'. A law counts once. -/
mutual
def uptoBulk {H : Type} : DataW H → Nat
  | .lit (.string bytes) => bytes.length + 1
  | .lit _ => 1
  | .nil => 1
  | .ptr d => uptoBulk d + 1
  | .slice elems spare => uptoBulkAll elems + uptoBulkAll spare + 1
  | .agg parts => uptoBulkAll parts + 1
  | .iface _ d => uptoBulk d + 1
  | .map entries => uptoBulkEntries entries + 1
  | .held _ => 1
def uptoBulkAll {H : Type} : List (DataW H) → Nat
  | [] => 0
  | d :: r => uptoBulk d + uptoBulkAll r
def uptoBulkEntries {H : Type} : List (Lit × DataW H) → Nat
  | [] => 0
  | x :: r => uptoBulkEntry x + uptoBulkEntries r
def uptoBulkEntry {H : Type} : Lit × DataW H → Nat
  | (.string bytes, d) => bytes.length + uptoBulk d + 1
  | (_, d) => uptoBulk d + 1
 end
def uptoSmall : (H : Type) → List (DataW H) → Bool := fun _ ds => decide (uptoBulkAll ds ≤ 1048576)
def OpenSpec.upto (s : _root_.Go.ChangeSpec) : _root_.Go.OpenSpec := { _root_.Go.OpenSpec.ofChange s with cond := some uptoSmall }

/-- 'laws.FnExactFixesDo', WHERE WHAT IT READS IS OF BULK AT MOST 1048576: true; the input reads as it did. -/
def fnExactFixesDoUptoRow : OpenClaim := { program := "ytehgbopgfloejaa", sum := "a82398782d991bdc81b71637838cd98d1932e4651716188ad30b179d8c041c9f", func := "loop.example/reliefmaps/laws.FnExactFixesDo", spec := "fnExactFixesDo", unfollowed := true, recurses := true, apart := false, narrowed := true }
def FnExactFixesDoUptoSaid : Prop := fnExactFixesDoUptoRow.holds Try.pinned (OpenSpec.upto fnExactFixesDoSpec)

/-- 'laws.FnExactFixesValid', WHERE WHAT IT READS IS OF BULK AT MOST 1048576: true; the input reads as it did. -/
def fnExactFixesValidUptoRow : OpenClaim := { program := "ytehgbopgfloejaa", sum := "a82398782d991bdc81b71637838cd98d1932e4651716188ad30b179d8c041c9f", func := "loop.example/reliefmaps/laws.FnExactFixesValid", spec := "fnExactFixesValid", unfollowed := true, recurses := true, apart := false, narrowed := true }
def FnExactFixesValidUptoSaid : Prop := fnExactFixesValidUptoRow.holds Try.pinned (OpenSpec.upto fnExactFixesValidSpec)

/-- 'laws.FnExactFixesBack', WHERE WHAT IT READS IS OF BULK AT MOST 1048576: true; the input reads as it did. -/
def fnExactFixesBackUptoRow : OpenClaim := { program := "ytehgbopgfloejaa", sum := "a82398782d991bdc81b71637838cd98d1932e4651716188ad30b179d8c041c9f", func := "loop.example/reliefmaps/laws.FnExactFixesBack", spec := "fnExactFixesBack", unfollowed := true, recurses := true, apart := false, narrowed := true }
def FnExactFixesBackUptoSaid : Prop := fnExactFixesBackUptoRow.holds Try.pinned (OpenSpec.upto fnExactFixesBackSpec)

/-- 'laws.FnExactFixesMake', WHERE WHAT IT READS IS OF BULK AT MOST 1048576: true; the input reads as it did. -/
def fnExactFixesMakeUptoRow : OpenClaim := { program := "ytehgbopgfloejaa", sum := "a82398782d991bdc81b71637838cd98d1932e4651716188ad30b179d8c041c9f", func := "loop.example/reliefmaps/laws.FnExactFixesMake", spec := "fnExactFixesMake", unfollowed := true, recurses := true, apart := false, narrowed := true }
def FnExactFixesMakeUptoSaid : Prop := fnExactFixesMakeUptoRow.holds Try.pinned (OpenSpec.upto fnExactFixesMakeSpec)

/-- 'laws.FnExactFixesShort', WHERE WHAT IT READS IS OF BULK AT MOST 1048576: true; the input reads as it did. -/
def fnExactFixesShortUptoRow : OpenClaim := { program := "ytehgbopgfloejaa", sum := "a82398782d991bdc81b71637838cd98d1932e4651716188ad30b179d8c041c9f", func := "loop.example/reliefmaps/laws.FnExactFixesShort", spec := "fnExactFixesShort", unfollowed := true, recurses := true, apart := false, narrowed := true }
def FnExactFixesShortUptoSaid : Prop := fnExactFixesShortUptoRow.holds Try.pinned (OpenSpec.upto fnExactFixesShortSpec)

/-- 'laws.FnExactFixesAre', WHERE WHAT IT READS IS OF BULK AT MOST 1048576: true; the input reads as it did. -/
def fnExactFixesAreUptoRow : OpenClaim := { program := "ytehgbopgfloejaa", sum := "a82398782d991bdc81b71637838cd98d1932e4651716188ad30b179d8c041c9f", func := "loop.example/reliefmaps/laws.FnExactFixesAre", spec := "fnExactFixesAre", unfollowed := true, recurses := true, apart := false, narrowed := true }
def FnExactFixesAreUptoSaid : Prop := fnExactFixesAreUptoRow.holds Try.pinned (OpenSpec.upto fnExactFixesAreSpec)

/-- 'laws.FnExactFixesClash', WHERE WHAT IT READS IS OF BULK AT MOST 1048576: true; the input reads as it did. -/
def fnExactFixesClashUptoRow : OpenClaim := { program := "ytehgbopgfloejaa", sum := "a82398782d991bdc81b71637838cd98d1932e4651716188ad30b179d8c041c9f", func := "loop.example/reliefmaps/laws.FnExactFixesClash", spec := "fnExactFixesClash", unfollowed := true, recurses := true, apart := false, narrowed := true }
def FnExactFixesClashUptoSaid : Prop := fnExactFixesClashUptoRow.holds Try.pinned (OpenSpec.upto fnExactFixesClashSpec)

/-- 'laws.FnExactFixesBoth', WHERE WHAT IT READS IS OF BULK AT MOST 1048576: true; the input reads as it did. -/
def fnExactFixesBothUptoRow : OpenClaim := { program := "ytehgbopgfloejaa", sum := "a82398782d991bdc81b71637838cd98d1932e4651716188ad30b179d8c041c9f", func := "loop.example/reliefmaps/laws.FnExactFixesBoth", spec := "fnExactFixesBoth", unfollowed := true, recurses := true, apart := false, narrowed := true }
def FnExactFixesBothUptoSaid : Prop := fnExactFixesBothUptoRow.holds Try.pinned (OpenSpec.upto fnExactFixesBothSpec)

/-- 'laws.FnExactFixesCells', WHERE WHAT IT READS IS OF BULK AT MOST 1048576: true; the input reads as it did. -/
def fnExactFixesCellsUptoRow : OpenClaim := { program := "ytehgbopgfloejaa", sum := "a82398782d991bdc81b71637838cd98d1932e4651716188ad30b179d8c041c9f", func := "loop.example/reliefmaps/laws.FnExactFixesCells", spec := "fnExactFixesCells", unfollowed := true, recurses := true, apart := false, narrowed := true }
def FnExactFixesCellsUptoSaid : Prop := fnExactFixesCellsUptoRow.holds Try.pinned (OpenSpec.upto fnExactFixesCellsSpec)

/-- 'laws.FnExactFixesAt', WHERE WHAT IT READS IS OF BULK AT MOST 1048576: true; the input reads as it did. -/
def fnExactFixesAtUptoRow : OpenClaim := { program := "ytehgbopgfloejaa", sum := "a82398782d991bdc81b71637838cd98d1932e4651716188ad30b179d8c041c9f", func := "loop.example/reliefmaps/laws.FnExactFixesAt", spec := "fnExactFixesAt", unfollowed := true, recurses := true, apart := false, narrowed := true }
def FnExactFixesAtUptoSaid : Prop := fnExactFixesAtUptoRow.holds Try.pinned (OpenSpec.upto fnExactFixesAtSpec)

/-- 'laws.FnExactFixesRise', WHERE WHAT IT READS IS OF BULK AT MOST 1048576: true; the input reads as it did. -/
def fnExactFixesRiseUptoRow : OpenClaim := { program := "ytehgbopgfloejaa", sum := "a82398782d991bdc81b71637838cd98d1932e4651716188ad30b179d8c041c9f", func := "loop.example/reliefmaps/laws.FnExactFixesRise", spec := "fnExactFixesRise", unfollowed := true, recurses := true, apart := false, narrowed := true }
def FnExactFixesRiseUptoSaid : Prop := fnExactFixesRiseUptoRow.holds Try.pinned (OpenSpec.upto fnExactFixesRiseSpec)

/-- 'laws.FnExactEditionFar', WHERE WHAT IT READS IS OF BULK AT MOST 1048576: true; the input reads as it did. -/
def fnExactEditionFarUptoRow : OpenClaim := { program := "ytehgbopgfloejaa", sum := "a82398782d991bdc81b71637838cd98d1932e4651716188ad30b179d8c041c9f", func := "loop.example/reliefmaps/laws.FnExactEditionFar", spec := "fnExactEditionFar", unfollowed := true, recurses := true, apart := false, narrowed := true }
def FnExactEditionFarUptoSaid : Prop := fnExactEditionFarUptoRow.holds Try.pinned (OpenSpec.upto fnExactEditionFarSpec)

end Rows
end Go.Proofs.Ytehgbopgfloejaa
