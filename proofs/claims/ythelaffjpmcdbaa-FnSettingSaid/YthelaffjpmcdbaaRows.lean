/-
  No cell of these rows narrows 'for every input' (looked for: loops, veiled, ifaces, maps, wideKeys, modest, calm, conditions, laid).
  DERIVED. THE GIVEN ROWS OF THIS SEAT. 10 by the template 'for every input the law returns true; each argument reads behind the call as it read before'; 0 by the template 'total and deterministic' (their statements: YthelaffjpmcdbaaTotals.lean).
  GIVEN WITH THE SEED: the statements are not yours to turn. If you find one false, say at which input.
  Laid BY PROGRAM, IN A SANDBOX (cutbox-rows.mjs): the forced cells as the released guide's own fill.sh prints them over the translation 96ecb57d8f37d0c8… (all of the seat's roots in one cut). By AI agents, Wed Nov 11 2026. No macro, syntax, notation, axiom, sorry.
-/
import Derived.Test.YthelaffjpmcdbaaChecked
import GoSem.Claim
import GoSem.ClaimJoined
import GoSem.ClaimMapViews
import Derived.JoinedTies
import Derived.KernelRfl
namespace Go.Proofs.Ythelaffjpmcdbaa
/- THE CELL 'sum', in the pinned program and in every row, IS THE sha256 OF THE DUMP (.gsa) THAT YthelaffjpmcdbaaProg.lean LOADS. Nothing in Lean hashes anything: it is a label: what it is worth is what the hold of that sum in a sandbox is worth. -/
noncomputable def Try.pinned : Pinned := { name := "ythelaffjpmcdbaa", sum := "96ecb57d8f37d0c8d952e97a8ad302733557cbcff57cb745aa93e91987843dd0", checked := Try.checked }
namespace Rows
def none {H : Type} : Left H := { results := [], args := [] }

/-- 'laws.FnLabels': WHATEVER THE INPUT: true; the input reads as it did. -/
def fnLabelsSpec : ChangeSpec := { name := "fnLabels", fn := fun _ => fun
  | [d1, d2] => { results := [.lit (.bool true)], args := [d1, d2] }
  | _ => none }
def fnLabelsRow : OpenClaim := { program := "ythelaffjpmcdbaa", sum := "96ecb57d8f37d0c8d952e97a8ad302733557cbcff57cb745aa93e91987843dd0", func := "loop.example/reliefmaps/laws.FnLabels", spec := "fnLabels", unfollowed := true, recurses := true, apart := false }
def FnLabelsSaid : Prop := fnLabelsRow.holds Try.pinned (OpenSpec.ofChange fnLabelsSpec)

/-- ITS FALSE NEIGHBOUR: 'it returns false'. Refute it at one input. -/
def fnLabelsWrong : ChangeSpec := { name := "fnLabels", fn := fun _ => fun
  | [d1, d2] => { results := [.lit (.bool false)], args := [d1, d2] }
  | _ => none }
def FnLabelsWrongFalsely : Prop := fnLabelsRow.holds Try.pinned (OpenSpec.ofChange fnLabelsWrong)

/-- 'laws.FnSetting': WHATEVER THE INPUT: true; the input reads as it did. -/
def fnSettingSpec : ChangeSpec := { name := "fnSetting", fn := fun _ => fun
  | [d] => { results := [.lit (.bool true)], args := [d] }
  | _ => none }
def fnSettingRow : OpenClaim := { program := "ythelaffjpmcdbaa", sum := "96ecb57d8f37d0c8d952e97a8ad302733557cbcff57cb745aa93e91987843dd0", func := "loop.example/reliefmaps/laws.FnSetting", spec := "fnSetting", unfollowed := true, recurses := true, apart := false }
def FnSettingSaid : Prop := fnSettingRow.holds Try.pinned (OpenSpec.ofChange fnSettingSpec)

/-- ITS FALSE NEIGHBOUR: 'it returns false'. Refute it at one input. -/
def fnSettingWrong : ChangeSpec := { name := "fnSetting", fn := fun _ => fun
  | [d] => { results := [.lit (.bool false)], args := [d] }
  | _ => none }
def FnSettingWrongFalsely : Prop := fnSettingRow.holds Try.pinned (OpenSpec.ofChange fnSettingWrong)

/-- 'laws.FnSettingWeight': WHATEVER THE INPUT: true; the input reads as it did. -/
def fnSettingWeightSpec : ChangeSpec := { name := "fnSettingWeight", fn := fun _ => fun
  | [d] => { results := [.lit (.bool true)], args := [d] }
  | _ => none }
def fnSettingWeightRow : OpenClaim := { program := "ythelaffjpmcdbaa", sum := "96ecb57d8f37d0c8d952e97a8ad302733557cbcff57cb745aa93e91987843dd0", func := "loop.example/reliefmaps/laws.FnSettingWeight", spec := "fnSettingWeight", unfollowed := true, recurses := true, apart := false }
def FnSettingWeightSaid : Prop := fnSettingWeightRow.holds Try.pinned (OpenSpec.ofChange fnSettingWeightSpec)

/-- ITS FALSE NEIGHBOUR: 'it returns false'. Refute it at one input. -/
def fnSettingWeightWrong : ChangeSpec := { name := "fnSettingWeight", fn := fun _ => fun
  | [d] => { results := [.lit (.bool false)], args := [d] }
  | _ => none }
def FnSettingWeightWrongFalsely : Prop := fnSettingWeightRow.holds Try.pinned (OpenSpec.ofChange fnSettingWeightWrong)

/-- 'laws.FnSettingMany': WHATEVER THE INPUT: true; the input reads as it did. -/
def fnSettingManySpec : ChangeSpec := { name := "fnSettingMany", fn := fun _ => fun
  | [d] => { results := [.lit (.bool true)], args := [d] }
  | _ => none }
def fnSettingManyRow : OpenClaim := { program := "ythelaffjpmcdbaa", sum := "96ecb57d8f37d0c8d952e97a8ad302733557cbcff57cb745aa93e91987843dd0", func := "loop.example/reliefmaps/laws.FnSettingMany", spec := "fnSettingMany", unfollowed := true, recurses := true, apart := false }
def FnSettingManySaid : Prop := fnSettingManyRow.holds Try.pinned (OpenSpec.ofChange fnSettingManySpec)

/-- ITS FALSE NEIGHBOUR: 'it returns false'. Refute it at one input. -/
def fnSettingManyWrong : ChangeSpec := { name := "fnSettingMany", fn := fun _ => fun
  | [d] => { results := [.lit (.bool false)], args := [d] }
  | _ => none }
def FnSettingManyWrongFalsely : Prop := fnSettingManyRow.holds Try.pinned (OpenSpec.ofChange fnSettingManyWrong)

/-- 'laws.FnSettingCount': WHATEVER THE INPUT: true; the input reads as it did. -/
def fnSettingCountSpec : ChangeSpec := { name := "fnSettingCount", fn := fun _ => fun
  | [d] => { results := [.lit (.bool true)], args := [d] }
  | _ => none }
def fnSettingCountRow : OpenClaim := { program := "ythelaffjpmcdbaa", sum := "96ecb57d8f37d0c8d952e97a8ad302733557cbcff57cb745aa93e91987843dd0", func := "loop.example/reliefmaps/laws.FnSettingCount", spec := "fnSettingCount", unfollowed := true, recurses := true, apart := false }
def FnSettingCountSaid : Prop := fnSettingCountRow.holds Try.pinned (OpenSpec.ofChange fnSettingCountSpec)

/-- ITS FALSE NEIGHBOUR: 'it returns false'. Refute it at one input. -/
def fnSettingCountWrong : ChangeSpec := { name := "fnSettingCount", fn := fun _ => fun
  | [d] => { results := [.lit (.bool false)], args := [d] }
  | _ => none }
def FnSettingCountWrongFalsely : Prop := fnSettingCountRow.holds Try.pinned (OpenSpec.ofChange fnSettingCountWrong)

/-- 'laws.FnLabelsDrop': WHATEVER THE INPUT: true; the input reads as it did. -/
def fnLabelsDropSpec : ChangeSpec := { name := "fnLabelsDrop", fn := fun _ => fun
  | [d] => { results := [.lit (.bool true)], args := [d] }
  | _ => none }
def fnLabelsDropRow : OpenClaim := { program := "ythelaffjpmcdbaa", sum := "96ecb57d8f37d0c8d952e97a8ad302733557cbcff57cb745aa93e91987843dd0", func := "loop.example/reliefmaps/laws.FnLabelsDrop", spec := "fnLabelsDrop", unfollowed := true, recurses := true, apart := false }
def FnLabelsDropSaid : Prop := fnLabelsDropRow.holds Try.pinned (OpenSpec.ofChange fnLabelsDropSpec)

/-- ITS FALSE NEIGHBOUR: 'it returns false'. Refute it at one input. -/
def fnLabelsDropWrong : ChangeSpec := { name := "fnLabelsDrop", fn := fun _ => fun
  | [d] => { results := [.lit (.bool false)], args := [d] }
  | _ => none }
def FnLabelsDropWrongFalsely : Prop := fnLabelsDropRow.holds Try.pinned (OpenSpec.ofChange fnLabelsDropWrong)

/-- 'laws.FnFlip': WHATEVER THE INPUT: true; the input reads as it did. -/
def fnFlipSpec : ChangeSpec := { name := "fnFlip", fn := fun _ => fun
  | [d] => { results := [.lit (.bool true)], args := [d] }
  | _ => none }
def fnFlipRow : OpenClaim := { program := "ythelaffjpmcdbaa", sum := "96ecb57d8f37d0c8d952e97a8ad302733557cbcff57cb745aa93e91987843dd0", func := "loop.example/reliefmaps/laws.FnFlip", spec := "fnFlip", unfollowed := true, recurses := true, apart := false }
def FnFlipSaid : Prop := fnFlipRow.holds Try.pinned (OpenSpec.ofChange fnFlipSpec)

/-- ITS FALSE NEIGHBOUR: 'it returns false'. Refute it at one input. -/
def fnFlipWrong : ChangeSpec := { name := "fnFlip", fn := fun _ => fun
  | [d] => { results := [.lit (.bool false)], args := [d] }
  | _ => none }
def FnFlipWrongFalsely : Prop := fnFlipRow.holds Try.pinned (OpenSpec.ofChange fnFlipWrong)

/-- 'laws.FnSettingGreedy': WHATEVER THE INPUT: true; the input reads as it did. -/
def fnSettingGreedySpec : ChangeSpec := { name := "fnSettingGreedy", fn := fun _ => fun
  | [d] => { results := [.lit (.bool true)], args := [d] }
  | _ => none }
def fnSettingGreedyRow : OpenClaim := { program := "ythelaffjpmcdbaa", sum := "96ecb57d8f37d0c8d952e97a8ad302733557cbcff57cb745aa93e91987843dd0", func := "loop.example/reliefmaps/laws.FnSettingGreedy", spec := "fnSettingGreedy", unfollowed := true, recurses := true, apart := false }
def FnSettingGreedySaid : Prop := fnSettingGreedyRow.holds Try.pinned (OpenSpec.ofChange fnSettingGreedySpec)

/-- ITS FALSE NEIGHBOUR: 'it returns false'. Refute it at one input. -/
def fnSettingGreedyWrong : ChangeSpec := { name := "fnSettingGreedy", fn := fun _ => fun
  | [d] => { results := [.lit (.bool false)], args := [d] }
  | _ => none }
def FnSettingGreedyWrongFalsely : Prop := fnSettingGreedyRow.holds Try.pinned (OpenSpec.ofChange fnSettingGreedyWrong)

/-- 'laws.FnSettingBest': WHATEVER THE INPUT: true; the input reads as it did. -/
def fnSettingBestSpec : ChangeSpec := { name := "fnSettingBest", fn := fun _ => fun
  | [d] => { results := [.lit (.bool true)], args := [d] }
  | _ => none }
def fnSettingBestRow : OpenClaim := { program := "ythelaffjpmcdbaa", sum := "96ecb57d8f37d0c8d952e97a8ad302733557cbcff57cb745aa93e91987843dd0", func := "loop.example/reliefmaps/laws.FnSettingBest", spec := "fnSettingBest", unfollowed := true, recurses := true, apart := false }
def FnSettingBestSaid : Prop := fnSettingBestRow.holds Try.pinned (OpenSpec.ofChange fnSettingBestSpec)

/-- ITS FALSE NEIGHBOUR: 'it returns false'. Refute it at one input. -/
def fnSettingBestWrong : ChangeSpec := { name := "fnSettingBest", fn := fun _ => fun
  | [d] => { results := [.lit (.bool false)], args := [d] }
  | _ => none }
def FnSettingBestWrongFalsely : Prop := fnSettingBestRow.holds Try.pinned (OpenSpec.ofChange fnSettingBestWrong)

/-- 'laws.FnSettingMost': WHATEVER THE INPUT: true; the input reads as it did. -/
def fnSettingMostSpec : ChangeSpec := { name := "fnSettingMost", fn := fun _ => fun
  | [d] => { results := [.lit (.bool true)], args := [d] }
  | _ => none }
def fnSettingMostRow : OpenClaim := { program := "ythelaffjpmcdbaa", sum := "96ecb57d8f37d0c8d952e97a8ad302733557cbcff57cb745aa93e91987843dd0", func := "loop.example/reliefmaps/laws.FnSettingMost", spec := "fnSettingMost", unfollowed := true, recurses := true, apart := false }
def FnSettingMostSaid : Prop := fnSettingMostRow.holds Try.pinned (OpenSpec.ofChange fnSettingMostSpec)

/-- ITS FALSE NEIGHBOUR: 'it returns false'. Refute it at one input. -/
def fnSettingMostWrong : ChangeSpec := { name := "fnSettingMost", fn := fun _ => fun
  | [d] => { results := [.lit (.bool false)], args := [d] }
  | _ => none }
def FnSettingMostWrongFalsely : Prop := fnSettingMostRow.holds Try.pinned (OpenSpec.ofChange fnSettingMostWrong)

/- THE SECOND FORM. 'bulk': how many values and letters a reading holds, each counted each time it is reached (what is shared counts as often as it is met; a slice's spare places count too). A statement '..UptoSaid' is the law's where the arguments, and the package variables that the reading takes, are together of bulk at most 1048576: NARROWER than '..Said'. Prove '..Said' where nothing that the law and all that it calls make is longer than what came in: it says more and counts as full. Else prove '..UptoSaid'. A law counts once. -/
mutual
def uptoBulk {H : Type} : DataW H → Nat
  | .lit (.string bytes) => bytes.length + 1
  | .lit _ => 1
  | .nil => 1
  | .ptr d => uptoBulk d + 1
  | .slice elems spare => uptoBulkAll elems + uptoBulkAll spare + 1
  | .agg parts => uptoBulkAll parts + 1
  | .iface _ d => uptoBulk d + 1
  | .map entries => uptoBulkEntries entries + 1
  | .held _ => 1
def uptoBulkAll {H : Type} : List (DataW H) → Nat
  | [] => 0
  | d :: r => uptoBulk d + uptoBulkAll r
def uptoBulkEntries {H : Type} : List (Lit × DataW H) → Nat
  | [] => 0
  | x :: r => uptoBulkEntry x + uptoBulkEntries r
def uptoBulkEntry {H : Type} : Lit × DataW H → Nat
  | (.string bytes, d) => bytes.length + uptoBulk d + 1
  | (_, d) => uptoBulk d + 1
 end
def uptoSmall : (H : Type) → List (DataW H) → Bool := fun _ ds => decide (uptoBulkAll ds ≤ 1048576)
def OpenSpec.upto (s : _root_.Go.ChangeSpec) : _root_.Go.OpenSpec := { _root_.Go.OpenSpec.ofChange s with cond := some uptoSmall }

/-- 'laws.FnLabels', WHERE WHAT IT READS IS OF BULK AT MOST 1048576: true; the input reads as it did. -/
def fnLabelsUptoRow : OpenClaim := { program := "ythelaffjpmcdbaa", sum := "96ecb57d8f37d0c8d952e97a8ad302733557cbcff57cb745aa93e91987843dd0", func := "loop.example/reliefmaps/laws.FnLabels", spec := "fnLabels", unfollowed := true, recurses := true, apart := false, narrowed := true }
def FnLabelsUptoSaid : Prop := fnLabelsUptoRow.holds Try.pinned (OpenSpec.upto fnLabelsSpec)

/-- 'laws.FnSetting', WHERE WHAT IT READS IS OF BULK AT MOST 1048576: true; the input reads as it did. -/
def fnSettingUptoRow : OpenClaim := { program := "ythelaffjpmcdbaa", sum := "96ecb57d8f37d0c8d952e97a8ad302733557cbcff57cb745aa93e91987843dd0", func := "loop.example/reliefmaps/laws.FnSetting", spec := "fnSetting", unfollowed := true, recurses := true, apart := false, narrowed := true }
def FnSettingUptoSaid : Prop := fnSettingUptoRow.holds Try.pinned (OpenSpec.upto fnSettingSpec)

/-- 'laws.FnSettingWeight', WHERE WHAT IT READS IS OF BULK AT MOST 1048576: true; the input reads as it did. -/
def fnSettingWeightUptoRow : OpenClaim := { program := "ythelaffjpmcdbaa", sum := "96ecb57d8f37d0c8d952e97a8ad302733557cbcff57cb745aa93e91987843dd0", func := "loop.example/reliefmaps/laws.FnSettingWeight", spec := "fnSettingWeight", unfollowed := true, recurses := true, apart := false, narrowed := true }
def FnSettingWeightUptoSaid : Prop := fnSettingWeightUptoRow.holds Try.pinned (OpenSpec.upto fnSettingWeightSpec)

/-- 'laws.FnSettingMany', WHERE WHAT IT READS IS OF BULK AT MOST 1048576: true; the input reads as it did. -/
def fnSettingManyUptoRow : OpenClaim := { program := "ythelaffjpmcdbaa", sum := "96ecb57d8f37d0c8d952e97a8ad302733557cbcff57cb745aa93e91987843dd0", func := "loop.example/reliefmaps/laws.FnSettingMany", spec := "fnSettingMany", unfollowed := true, recurses := true, apart := false, narrowed := true }
def FnSettingManyUptoSaid : Prop := fnSettingManyUptoRow.holds Try.pinned (OpenSpec.upto fnSettingManySpec)

/-- 'laws.FnSettingCount', WHERE WHAT IT READS IS OF BULK AT MOST 1048576: true; the input reads as it did. -/
def fnSettingCountUptoRow : OpenClaim := { program := "ythelaffjpmcdbaa", sum := "96ecb57d8f37d0c8d952e97a8ad302733557cbcff57cb745aa93e91987843dd0", func := "loop.example/reliefmaps/laws.FnSettingCount", spec := "fnSettingCount", unfollowed := true, recurses := true, apart := false, narrowed := true }
def FnSettingCountUptoSaid : Prop := fnSettingCountUptoRow.holds Try.pinned (OpenSpec.upto fnSettingCountSpec)

/-- 'laws.FnLabelsDrop', WHERE WHAT IT READS IS OF BULK AT MOST 1048576: true; the input reads as it did. -/
def fnLabelsDropUptoRow : OpenClaim := { program := "ythelaffjpmcdbaa", sum := "96ecb57d8f37d0c8d952e97a8ad302733557cbcff57cb745aa93e91987843dd0", func := "loop.example/reliefmaps/laws.FnLabelsDrop", spec := "fnLabelsDrop", unfollowed := true, recurses := true, apart := false, narrowed := true }
def FnLabelsDropUptoSaid : Prop := fnLabelsDropUptoRow.holds Try.pinned (OpenSpec.upto fnLabelsDropSpec)

/-- 'laws.FnFlip', WHERE WHAT IT READS IS OF BULK AT MOST 1048576: true; the input reads as it did. -/
def fnFlipUptoRow : OpenClaim := { program := "ythelaffjpmcdbaa", sum := "96ecb57d8f37d0c8d952e97a8ad302733557cbcff57cb745aa93e91987843dd0", func := "loop.example/reliefmaps/laws.FnFlip", spec := "fnFlip", unfollowed := true, recurses := true, apart := false, narrowed := true }
def FnFlipUptoSaid : Prop := fnFlipUptoRow.holds Try.pinned (OpenSpec.upto fnFlipSpec)

/-- 'laws.FnSettingGreedy', WHERE WHAT IT READS IS OF BULK AT MOST 1048576: true; the input reads as it did. -/
def fnSettingGreedyUptoRow : OpenClaim := { program := "ythelaffjpmcdbaa", sum := "96ecb57d8f37d0c8d952e97a8ad302733557cbcff57cb745aa93e91987843dd0", func := "loop.example/reliefmaps/laws.FnSettingGreedy", spec := "fnSettingGreedy", unfollowed := true, recurses := true, apart := false, narrowed := true }
def FnSettingGreedyUptoSaid : Prop := fnSettingGreedyUptoRow.holds Try.pinned (OpenSpec.upto fnSettingGreedySpec)

/-- 'laws.FnSettingBest', WHERE WHAT IT READS IS OF BULK AT MOST 1048576: true; the input reads as it did. -/
def fnSettingBestUptoRow : OpenClaim := { program := "ythelaffjpmcdbaa", sum := "96ecb57d8f37d0c8d952e97a8ad302733557cbcff57cb745aa93e91987843dd0", func := "loop.example/reliefmaps/laws.FnSettingBest", spec := "fnSettingBest", unfollowed := true, recurses := true, apart := false, narrowed := true }
def FnSettingBestUptoSaid : Prop := fnSettingBestUptoRow.holds Try.pinned (OpenSpec.upto fnSettingBestSpec)

/-- 'laws.FnSettingMost', WHERE WHAT IT READS IS OF BULK AT MOST 1048576: true; the input reads as it did. -/
def fnSettingMostUptoRow : OpenClaim := { program := "ythelaffjpmcdbaa", sum := "96ecb57d8f37d0c8d952e97a8ad302733557cbcff57cb745aa93e91987843dd0", func := "loop.example/reliefmaps/laws.FnSettingMost", spec := "fnSettingMost", unfollowed := true, recurses := true, apart := false, narrowed := true }
def FnSettingMostUptoSaid : Prop := fnSettingMostUptoRow.holds Try.pinned (OpenSpec.upto fnSettingMostSpec)

end Rows
end Go.Proofs.Ythelaffjpmcdbaa
