/-
  No cell of these rows narrows 'for every input' (looked for: loops, veiled, ifaces, maps, wideKeys, modest, calm, conditions, laid).
  DERIVED. THE GIVEN ROWS OF THIS SEAT. 12 by the template 'for every input the law returns true; each argument reads behind the call as it read before'; 0 by the template 'total and deterministic' (their statements: YtfhaiaiehgohpaaTotals.lean).
  GIVEN WITH THE SEED: the statements are not yours to turn. If you find one false, say at which input.
  Laid BY PROGRAM, IN A SANDBOX (cutbox-rows.mjs): the forced cells as the released guide's own fill.sh prints them over the translation aea49d39d5085ddd… (all of the seat's roots in one cut). By AI agents, Wed Nov 11 2026. No macro, syntax, notation, axiom, sorry.
-/
import Derived.Test.YtfhaiaiehgohpaaChecked
import GoSem.Claim
import GoSem.ClaimJoined
import GoSem.ClaimMapViews
import Derived.JoinedTies
import Derived.KernelRfl
namespace Go.Proofs.Ytfhaiaiehgohpaa
/- THE CELL 'sum', in the pinned program and in every row, IS THE sha256 OF THE DUMP (.gsa) THAT YtfhaiaiehgohpaaProg.lean LOADS. Nothing in Lean hashes anything: it is a label: what it is worth is what the hold of that sum in a sandbox is worth. -/
noncomputable def Try.pinned : Pinned := { name := "ytfhaiaiehgohpaa", sum := "aea49d39d5085dddfcf0e534b582285c3492bddae9c81a2e45890eab3ce6e97e", checked := Try.checked }
namespace Rows
def none {H : Type} : Left H := { results := [], args := [] }

/-- 'laws.FnExactLabelsValid': WHATEVER THE INPUT: true; the input reads as it did. -/
def fnExactLabelsValidSpec : ChangeSpec := { name := "fnExactLabelsValid", fn := fun _ => fun
  | [d] => { results := [.lit (.bool true)], args := [d] }
  | _ => none }
def fnExactLabelsValidRow : OpenClaim := { program := "ytfhaiaiehgohpaa", sum := "aea49d39d5085dddfcf0e534b582285c3492bddae9c81a2e45890eab3ce6e97e", func := "loop.example/reliefmaps/laws.FnExactLabelsValid", spec := "fnExactLabelsValid", unfollowed := true, recurses := true, apart := false }
def FnExactLabelsValidSaid : Prop := fnExactLabelsValidRow.holds Try.pinned (OpenSpec.ofChange fnExactLabelsValidSpec)

/-- ITS FALSE NEIGHBOUR: 'it returns false'. Refute it at one input. -/
def fnExactLabelsValidWrong : ChangeSpec := { name := "fnExactLabelsValid", fn := fun _ => fun
  | [d] => { results := [.lit (.bool false)], args := [d] }
  | _ => none }
def FnExactLabelsValidWrongFalsely : Prop := fnExactLabelsValidRow.holds Try.pinned (OpenSpec.ofChange fnExactLabelsValidWrong)

/-- 'laws.FnExactLabelPlaces': WHATEVER THE INPUT: true; the input reads as it did. -/
def fnExactLabelPlacesSpec : ChangeSpec := { name := "fnExactLabelPlaces", fn := fun _ => fun
  | [d1, d2] => { results := [.lit (.bool true)], args := [d1, d2] }
  | _ => none }
def fnExactLabelPlacesRow : OpenClaim := { program := "ytfhaiaiehgohpaa", sum := "aea49d39d5085dddfcf0e534b582285c3492bddae9c81a2e45890eab3ce6e97e", func := "loop.example/reliefmaps/laws.FnExactLabelPlaces", spec := "fnExactLabelPlaces", apart := false }
def FnExactLabelPlacesSaid : Prop := fnExactLabelPlacesRow.holds Try.pinned (OpenSpec.ofChange fnExactLabelPlacesSpec)

/-- ITS FALSE NEIGHBOUR: 'it returns false'. Refute it at one input. -/
def fnExactLabelPlacesWrong : ChangeSpec := { name := "fnExactLabelPlaces", fn := fun _ => fun
  | [d1, d2] => { results := [.lit (.bool false)], args := [d1, d2] }
  | _ => none }
def FnExactLabelPlacesWrongFalsely : Prop := fnExactLabelPlacesRow.holds Try.pinned (OpenSpec.ofChange fnExactLabelPlacesWrong)

/-- 'laws.FnExactSettingValid': WHATEVER THE INPUT: true; the input reads as it did. -/
def fnExactSettingValidSpec : ChangeSpec := { name := "fnExactSettingValid", fn := fun _ => fun
  | [d1, d2] => { results := [.lit (.bool true)], args := [d1, d2] }
  | _ => none }
def fnExactSettingValidRow : OpenClaim := { program := "ytfhaiaiehgohpaa", sum := "aea49d39d5085dddfcf0e534b582285c3492bddae9c81a2e45890eab3ce6e97e", func := "loop.example/reliefmaps/laws.FnExactSettingValid", spec := "fnExactSettingValid", unfollowed := true, recurses := true, apart := false }
def FnExactSettingValidSaid : Prop := fnExactSettingValidRow.holds Try.pinned (OpenSpec.ofChange fnExactSettingValidSpec)

/-- ITS FALSE NEIGHBOUR: 'it returns false'. Refute it at one input. -/
def fnExactSettingValidWrong : ChangeSpec := { name := "fnExactSettingValid", fn := fun _ => fun
  | [d1, d2] => { results := [.lit (.bool false)], args := [d1, d2] }
  | _ => none }
def FnExactSettingValidWrongFalsely : Prop := fnExactSettingValidRow.holds Try.pinned (OpenSpec.ofChange fnExactSettingValidWrong)

/-- 'laws.FnExactSettingWeight': WHATEVER THE INPUT: true; the input reads as it did. -/
def fnExactSettingWeightSpec : ChangeSpec := { name := "fnExactSettingWeight", fn := fun _ => fun
  | [d1, d2] => { results := [.lit (.bool true)], args := [d1, d2] }
  | _ => none }
def fnExactSettingWeightRow : OpenClaim := { program := "ytfhaiaiehgohpaa", sum := "aea49d39d5085dddfcf0e534b582285c3492bddae9c81a2e45890eab3ce6e97e", func := "loop.example/reliefmaps/laws.FnExactSettingWeight", spec := "fnExactSettingWeight", unfollowed := true, recurses := true, apart := false }
def FnExactSettingWeightSaid : Prop := fnExactSettingWeightRow.holds Try.pinned (OpenSpec.ofChange fnExactSettingWeightSpec)

/-- ITS FALSE NEIGHBOUR: 'it returns false'. Refute it at one input. -/
def fnExactSettingWeightWrong : ChangeSpec := { name := "fnExactSettingWeight", fn := fun _ => fun
  | [d1, d2] => { results := [.lit (.bool false)], args := [d1, d2] }
  | _ => none }
def FnExactSettingWeightWrongFalsely : Prop := fnExactSettingWeightRow.holds Try.pinned (OpenSpec.ofChange fnExactSettingWeightWrong)

/-- 'laws.FnExactSettingGreedy': WHATEVER THE INPUT: true; the input reads as it did. -/
def fnExactSettingGreedySpec : ChangeSpec := { name := "fnExactSettingGreedy", fn := fun _ => fun
  | [d] => { results := [.lit (.bool true)], args := [d] }
  | _ => none }
def fnExactSettingGreedyRow : OpenClaim := { program := "ytfhaiaiehgohpaa", sum := "aea49d39d5085dddfcf0e534b582285c3492bddae9c81a2e45890eab3ce6e97e", func := "loop.example/reliefmaps/laws.FnExactSettingGreedy", spec := "fnExactSettingGreedy", unfollowed := true, recurses := true, apart := false }
def FnExactSettingGreedySaid : Prop := fnExactSettingGreedyRow.holds Try.pinned (OpenSpec.ofChange fnExactSettingGreedySpec)

/-- ITS FALSE NEIGHBOUR: 'it returns false'. Refute it at one input. -/
def fnExactSettingGreedyWrong : ChangeSpec := { name := "fnExactSettingGreedy", fn := fun _ => fun
  | [d] => { results := [.lit (.bool false)], args := [d] }
  | _ => none }
def FnExactSettingGreedyWrongFalsely : Prop := fnExactSettingGreedyRow.holds Try.pinned (OpenSpec.ofChange fnExactSettingGreedyWrong)

/-- 'laws.FnExactSettingBest': WHATEVER THE INPUT: true; the input reads as it did. -/
def fnExactSettingBestSpec : ChangeSpec := { name := "fnExactSettingBest", fn := fun _ => fun
  | [d] => { results := [.lit (.bool true)], args := [d] }
  | _ => none }
def fnExactSettingBestRow : OpenClaim := { program := "ytfhaiaiehgohpaa", sum := "aea49d39d5085dddfcf0e534b582285c3492bddae9c81a2e45890eab3ce6e97e", func := "loop.example/reliefmaps/laws.FnExactSettingBest", spec := "fnExactSettingBest", unfollowed := true, recurses := true, apart := false }
def FnExactSettingBestSaid : Prop := fnExactSettingBestRow.holds Try.pinned (OpenSpec.ofChange fnExactSettingBestSpec)

/-- ITS FALSE NEIGHBOUR: 'it returns false'. Refute it at one input. -/
def fnExactSettingBestWrong : ChangeSpec := { name := "fnExactSettingBest", fn := fun _ => fun
  | [d] => { results := [.lit (.bool false)], args := [d] }
  | _ => none }
def FnExactSettingBestWrongFalsely : Prop := fnExactSettingBestRow.holds Try.pinned (OpenSpec.ofChange fnExactSettingBestWrong)

/-- 'laws.FnExactSettingMany': WHATEVER THE INPUT: true; the input reads as it did. -/
def fnExactSettingManySpec : ChangeSpec := { name := "fnExactSettingMany", fn := fun _ => fun
  | [d] => { results := [.lit (.bool true)], args := [d] }
  | _ => none }
def fnExactSettingManyRow : OpenClaim := { program := "ytfhaiaiehgohpaa", sum := "aea49d39d5085dddfcf0e534b582285c3492bddae9c81a2e45890eab3ce6e97e", func := "loop.example/reliefmaps/laws.FnExactSettingMany", spec := "fnExactSettingMany", unfollowed := true, recurses := true, apart := false }
def FnExactSettingManySaid : Prop := fnExactSettingManyRow.holds Try.pinned (OpenSpec.ofChange fnExactSettingManySpec)

/-- ITS FALSE NEIGHBOUR: 'it returns false'. Refute it at one input. -/
def fnExactSettingManyWrong : ChangeSpec := { name := "fnExactSettingMany", fn := fun _ => fun
  | [d] => { results := [.lit (.bool false)], args := [d] }
  | _ => none }
def FnExactSettingManyWrongFalsely : Prop := fnExactSettingManyRow.holds Try.pinned (OpenSpec.ofChange fnExactSettingManyWrong)

/-- 'laws.FnExactSettingMost': WHATEVER THE INPUT: true; the input reads as it did. -/
def fnExactSettingMostSpec : ChangeSpec := { name := "fnExactSettingMost", fn := fun _ => fun
  | [d] => { results := [.lit (.bool true)], args := [d] }
  | _ => none }
def fnExactSettingMostRow : OpenClaim := { program := "ytfhaiaiehgohpaa", sum := "aea49d39d5085dddfcf0e534b582285c3492bddae9c81a2e45890eab3ce6e97e", func := "loop.example/reliefmaps/laws.FnExactSettingMost", spec := "fnExactSettingMost", unfollowed := true, recurses := true, apart := false }
def FnExactSettingMostSaid : Prop := fnExactSettingMostRow.holds Try.pinned (OpenSpec.ofChange fnExactSettingMostSpec)

/-- ITS FALSE NEIGHBOUR: 'it returns false'. Refute it at one input. -/
def fnExactSettingMostWrong : ChangeSpec := { name := "fnExactSettingMost", fn := fun _ => fun
  | [d] => { results := [.lit (.bool false)], args := [d] }
  | _ => none }
def FnExactSettingMostWrongFalsely : Prop := fnExactSettingMostRow.holds Try.pinned (OpenSpec.ofChange fnExactSettingMostWrong)

/-- 'laws.FnExactLabelsDrop': WHATEVER THE INPUT: true; the input reads as it did. -/
def fnExactLabelsDropSpec : ChangeSpec := { name := "fnExactLabelsDrop", fn := fun _ => fun
  | [d1, d2] => { results := [.lit (.bool true)], args := [d1, d2] }
  | _ => none }
def fnExactLabelsDropRow : OpenClaim := { program := "ytfhaiaiehgohpaa", sum := "aea49d39d5085dddfcf0e534b582285c3492bddae9c81a2e45890eab3ce6e97e", func := "loop.example/reliefmaps/laws.FnExactLabelsDrop", spec := "fnExactLabelsDrop", unfollowed := true, recurses := true, apart := false }
def FnExactLabelsDropSaid : Prop := fnExactLabelsDropRow.holds Try.pinned (OpenSpec.ofChange fnExactLabelsDropSpec)

/-- ITS FALSE NEIGHBOUR: 'it returns false'. Refute it at one input. -/
def fnExactLabelsDropWrong : ChangeSpec := { name := "fnExactLabelsDrop", fn := fun _ => fun
  | [d1, d2] => { results := [.lit (.bool false)], args := [d1, d2] }
  | _ => none }
def FnExactLabelsDropWrongFalsely : Prop := fnExactLabelsDropRow.holds Try.pinned (OpenSpec.ofChange fnExactLabelsDropWrong)

/-- 'laws.FnExactLabelsFlip': WHATEVER THE INPUT: true; the input reads as it did. -/
def fnExactLabelsFlipSpec : ChangeSpec := { name := "fnExactLabelsFlip", fn := fun _ => fun
  | [d] => { results := [.lit (.bool true)], args := [d] }
  | _ => none }
def fnExactLabelsFlipRow : OpenClaim := { program := "ytfhaiaiehgohpaa", sum := "aea49d39d5085dddfcf0e534b582285c3492bddae9c81a2e45890eab3ce6e97e", func := "loop.example/reliefmaps/laws.FnExactLabelsFlip", spec := "fnExactLabelsFlip", unfollowed := true, recurses := true, apart := false }
def FnExactLabelsFlipSaid : Prop := fnExactLabelsFlipRow.holds Try.pinned (OpenSpec.ofChange fnExactLabelsFlipSpec)

/-- ITS FALSE NEIGHBOUR: 'it returns false'. Refute it at one input. -/
def fnExactLabelsFlipWrong : ChangeSpec := { name := "fnExactLabelsFlip", fn := fun _ => fun
  | [d] => { results := [.lit (.bool false)], args := [d] }
  | _ => none }
def FnExactLabelsFlipWrongFalsely : Prop := fnExactLabelsFlipRow.holds Try.pinned (OpenSpec.ofChange fnExactLabelsFlipWrong)

/-- 'laws.FnExactSettingFlip': WHATEVER THE INPUT: true; the input reads as it did. -/
def fnExactSettingFlipSpec : ChangeSpec := { name := "fnExactSettingFlip", fn := fun _ => fun
  | [d] => { results := [.lit (.bool true)], args := [d] }
  | _ => none }
def fnExactSettingFlipRow : OpenClaim := { program := "ytfhaiaiehgohpaa", sum := "aea49d39d5085dddfcf0e534b582285c3492bddae9c81a2e45890eab3ce6e97e", func := "loop.example/reliefmaps/laws.FnExactSettingFlip", spec := "fnExactSettingFlip", apart := false }
def FnExactSettingFlipSaid : Prop := fnExactSettingFlipRow.holds Try.pinned (OpenSpec.ofChange fnExactSettingFlipSpec)

/-- ITS FALSE NEIGHBOUR: 'it returns false'. Refute it at one input. -/
def fnExactSettingFlipWrong : ChangeSpec := { name := "fnExactSettingFlip", fn := fun _ => fun
  | [d] => { results := [.lit (.bool false)], args := [d] }
  | _ => none }
def FnExactSettingFlipWrongFalsely : Prop := fnExactSettingFlipRow.holds Try.pinned (OpenSpec.ofChange fnExactSettingFlipWrong)

/-- 'laws.FnExactSettingText': WHATEVER THE INPUT: true; the input reads as it did. -/
def fnExactSettingTextSpec : ChangeSpec := { name := "fnExactSettingText", fn := fun _ => fun
  | [d1, d2] => { results := [.lit (.bool true)], args := [d1, d2] }
  | _ => none }
def fnExactSettingTextRow : OpenClaim := { program := "ytfhaiaiehgohpaa", sum := "aea49d39d5085dddfcf0e534b582285c3492bddae9c81a2e45890eab3ce6e97e", func := "loop.example/reliefmaps/laws.FnExactSettingText", spec := "fnExactSettingText", inPlace := ["internal/abi.NoEscape"], unfollowed := true, recurses := true, apart := false }
def FnExactSettingTextSaid : Prop := fnExactSettingTextRow.holds Try.pinned (OpenSpec.ofChange fnExactSettingTextSpec)

/-- ITS FALSE NEIGHBOUR: 'it returns false'. Refute it at one input. -/
def fnExactSettingTextWrong : ChangeSpec := { name := "fnExactSettingText", fn := fun _ => fun
  | [d1, d2] => { results := [.lit (.bool false)], args := [d1, d2] }
  | _ => none }
def FnExactSettingTextWrongFalsely : Prop := fnExactSettingTextRow.holds Try.pinned (OpenSpec.ofChange fnExactSettingTextWrong)

/- THE SECOND FORM. 'bulk': how many values and letters a reading holds, each counted each time it is reached (what is shared counts as often as it is met; a slice's spare places count too). A statement '..UptoSaid' is the law's where the arguments, and the package variables that the reading takes, are together of bulk at most 1048576: NARROWER than '..Said'. Prove '..Said' where nothing that the law and all that it calls make is longer than what came in: it says more and counts as full. Else prove '..UptoSaid'. A law counts once. -/
mutual
def uptoBulk {H : Type} : DataW H → Nat
  | .lit (.string bytes) => bytes.length + 1
  | .lit _ => 1
  | .nil => 1
  | .ptr d => uptoBulk d + 1
  | .slice elems spare => uptoBulkAll elems + uptoBulkAll spare + 1
  | .agg parts => uptoBulkAll parts + 1
  | .iface _ d => uptoBulk d + 1
  | .map entries => uptoBulkEntries entries + 1
  | .held _ => 1
def uptoBulkAll {H : Type} : List (DataW H) → Nat
  | [] => 0
  | d :: r => uptoBulk d + uptoBulkAll r
def uptoBulkEntries {H : Type} : List (Lit × DataW H) → Nat
  | [] => 0
  | x :: r => uptoBulkEntry x + uptoBulkEntries r
def uptoBulkEntry {H : Type} : Lit × DataW H → Nat
  | (.string bytes, d) => bytes.length + uptoBulk d + 1
  | (_, d) => uptoBulk d + 1
 end
def uptoSmall : (H : Type) → List (DataW H) → Bool := fun _ ds => decide (uptoBulkAll ds ≤ 1048576)
def OpenSpec.upto (s : _root_.Go.ChangeSpec) : _root_.Go.OpenSpec := { _root_.Go.OpenSpec.ofChange s with cond := some uptoSmall }

/-- 'laws.FnExactLabelsValid', WHERE WHAT IT READS IS OF BULK AT MOST 1048576: true; the input reads as it did. -/
def fnExactLabelsValidUptoRow : OpenClaim := { program := "ytfhaiaiehgohpaa", sum := "aea49d39d5085dddfcf0e534b582285c3492bddae9c81a2e45890eab3ce6e97e", func := "loop.example/reliefmaps/laws.FnExactLabelsValid", spec := "fnExactLabelsValid", unfollowed := true, recurses := true, apart := false, narrowed := true }
def FnExactLabelsValidUptoSaid : Prop := fnExactLabelsValidUptoRow.holds Try.pinned (OpenSpec.upto fnExactLabelsValidSpec)

/-- 'laws.FnExactLabelPlaces', WHERE WHAT IT READS IS OF BULK AT MOST 1048576: true; the input reads as it did. -/
def fnExactLabelPlacesUptoRow : OpenClaim := { program := "ytfhaiaiehgohpaa", sum := "aea49d39d5085dddfcf0e534b582285c3492bddae9c81a2e45890eab3ce6e97e", func := "loop.example/reliefmaps/laws.FnExactLabelPlaces", spec := "fnExactLabelPlaces", apart := false, narrowed := true }
def FnExactLabelPlacesUptoSaid : Prop := fnExactLabelPlacesUptoRow.holds Try.pinned (OpenSpec.upto fnExactLabelPlacesSpec)

/-- 'laws.FnExactSettingValid', WHERE WHAT IT READS IS OF BULK AT MOST 1048576: true; the input reads as it did. -/
def fnExactSettingValidUptoRow : OpenClaim := { program := "ytfhaiaiehgohpaa", sum := "aea49d39d5085dddfcf0e534b582285c3492bddae9c81a2e45890eab3ce6e97e", func := "loop.example/reliefmaps/laws.FnExactSettingValid", spec := "fnExactSettingValid", unfollowed := true, recurses := true, apart := false, narrowed := true }
def FnExactSettingValidUptoSaid : Prop := fnExactSettingValidUptoRow.holds Try.pinned (OpenSpec.upto fnExactSettingValidSpec)

/-- 'laws.FnExactSettingWeight', WHERE WHAT IT READS IS OF BULK AT MOST 1048576: true; the input reads as it did. -/
def fnExactSettingWeightUptoRow : OpenClaim := { program := "ytfhaiaiehgohpaa", sum := "aea49d39d5085dddfcf0e534b582285c3492bddae9c81a2e45890eab3ce6e97e", func := "loop.example/reliefmaps/laws.FnExactSettingWeight", spec := "fnExactSettingWeight", unfollowed := true, recurses := true, apart := false, narrowed := true }
def FnExactSettingWeightUptoSaid : Prop := fnExactSettingWeightUptoRow.holds Try.pinned (OpenSpec.upto fnExactSettingWeightSpec)

/-- 'laws.FnExactSettingGreedy', WHERE WHAT IT READS IS OF BULK AT MOST 1048576: true; the input reads as it did. -/
def fnExactSettingGreedyUptoRow : OpenClaim := { program := "ytfhaiaiehgohpaa", sum := "aea49d39d5085dddfcf0e534b582285c3492bddae9c81a2e45890eab3ce6e97e", func := "loop.example/reliefmaps/laws.FnExactSettingGreedy", spec := "fnExactSettingGreedy", unfollowed := true, recurses := true, apart := false, narrowed := true }
def FnExactSettingGreedyUptoSaid : Prop := fnExactSettingGreedyUptoRow.holds Try.pinned (OpenSpec.upto fnExactSettingGreedySpec)

/-- 'laws.FnExactSettingBest', WHERE WHAT IT READS IS OF BULK AT MOST 1048576: true; the input reads as it did. -/
def fnExactSettingBestUptoRow : OpenClaim := { program := "ytfhaiaiehgohpaa", sum := "aea49d39d5085dddfcf0e534b582285c3492bddae9c81a2e45890eab3ce6e97e", func := "loop.example/reliefmaps/laws.FnExactSettingBest", spec := "fnExactSettingBest", unfollowed := true, recurses := true, apart := false, narrowed := true }
def FnExactSettingBestUptoSaid : Prop := fnExactSettingBestUptoRow.holds Try.pinned (OpenSpec.upto fnExactSettingBestSpec)

/-- 'laws.FnExactSettingMany', WHERE WHAT IT READS IS OF BULK AT MOST 1048576: true; the input reads as it did. -/
def fnExactSettingManyUptoRow : OpenClaim := { program := "ytfhaiaiehgohpaa", sum := "aea49d39d5085dddfcf0e534b582285c3492bddae9c81a2e45890eab3ce6e97e", func := "loop.example/reliefmaps/laws.FnExactSettingMany", spec := "fnExactSettingMany", unfollowed := true, recurses := true, apart := false, narrowed := true }
def FnExactSettingManyUptoSaid : Prop := fnExactSettingManyUptoRow.holds Try.pinned (OpenSpec.upto fnExactSettingManySpec)

/-- 'laws.FnExactSettingMost', WHERE WHAT IT READS IS OF BULK AT MOST 1048576: true; the input reads as it did. -/
def fnExactSettingMostUptoRow : OpenClaim := { program := "ytfhaiaiehgohpaa", sum := "aea49d39d5085dddfcf0e534b582285c3492bddae9c81a2e45890eab3ce6e97e", func := "loop.example/reliefmaps/laws.FnExactSettingMost", spec := "fnExactSettingMost", unfollowed := true, recurses := true, apart := false, narrowed := true }
def FnExactSettingMostUptoSaid : Prop := fnExactSettingMostUptoRow.holds Try.pinned (OpenSpec.upto fnExactSettingMostSpec)

/-- 'laws.FnExactLabelsDrop', WHERE WHAT IT READS IS OF BULK AT MOST 1048576: true; the input reads as it did. -/
def fnExactLabelsDropUptoRow : OpenClaim := { program := "ytfhaiaiehgohpaa", sum := "aea49d39d5085dddfcf0e534b582285c3492bddae9c81a2e45890eab3ce6e97e", func := "loop.example/reliefmaps/laws.FnExactLabelsDrop", spec := "fnExactLabelsDrop", unfollowed := true, recurses := true, apart := false, narrowed := true }
def FnExactLabelsDropUptoSaid : Prop := fnExactLabelsDropUptoRow.holds Try.pinned (OpenSpec.upto fnExactLabelsDropSpec)

/-- 'laws.FnExactLabelsFlip', WHERE WHAT IT READS IS OF BULK AT MOST 1048576: true; the input reads as it did. -/
def fnExactLabelsFlipUptoRow : OpenClaim := { program := "ytfhaiaiehgohpaa", sum := "aea49d39d5085dddfcf0e534b582285c3492bddae9c81a2e45890eab3ce6e97e", func := "loop.example/reliefmaps/laws.FnExactLabelsFlip", spec := "fnExactLabelsFlip", unfollowed := true, recurses := true, apart := false, narrowed := true }
def FnExactLabelsFlipUptoSaid : Prop := fnExactLabelsFlipUptoRow.holds Try.pinned (OpenSpec.upto fnExactLabelsFlipSpec)

/-- 'laws.FnExactSettingFlip', WHERE WHAT IT READS IS OF BULK AT MOST 1048576: true; the input reads as it did. -/
def fnExactSettingFlipUptoRow : OpenClaim := { program := "ytfhaiaiehgohpaa", sum := "aea49d39d5085dddfcf0e534b582285c3492bddae9c81a2e45890eab3ce6e97e", func := "loop.example/reliefmaps/laws.FnExactSettingFlip", spec := "fnExactSettingFlip", apart := false, narrowed := true }
def FnExactSettingFlipUptoSaid : Prop := fnExactSettingFlipUptoRow.holds Try.pinned (OpenSpec.upto fnExactSettingFlipSpec)

/-- 'laws.FnExactSettingText', WHERE WHAT IT READS IS OF BULK AT MOST 1048576: true; the input reads as it did. -/
def fnExactSettingTextUptoRow : OpenClaim := { program := "ytfhaiaiehgohpaa", sum := "aea49d39d5085dddfcf0e534b582285c3492bddae9c81a2e45890eab3ce6e97e", func := "loop.example/reliefmaps/laws.FnExactSettingText", spec := "fnExactSettingText", inPlace := ["internal/abi.NoEscape"], unfollowed := true, recurses := true, apart := false, narrowed := true }
def FnExactSettingTextUptoSaid : Prop := fnExactSettingTextUptoRow.holds Try.pinned (OpenSpec.upto fnExactSettingTextSpec)

end Rows
end Go.Proofs.Ytfhaiaiehgohpaa
