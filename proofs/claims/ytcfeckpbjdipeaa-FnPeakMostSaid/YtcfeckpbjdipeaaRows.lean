/-
  No cell of these rows narrows 'for every input' (looked for: loops, veiled, ifaces, maps, wideKeys, modest, calm, conditions, laid).
  DERIVED. THE GIVEN ROWS OF THIS SEAT. 9 by the template 'for every input the law returns true; each argument reads behind the call as it read before'; 0 by the template 'total and deterministic' (their statements: YtcfeckpbjdipeaaTotals.lean).
  GIVEN WITH THE SEED: the statements are not yours to turn. If you find one false, say at which input.
  Laid BY PROGRAM, IN A SANDBOX (cutbox-rows.mjs): the forced cells as the released guide's own fill.sh prints them over the translation 0efa4e142fd6e510… (all of the seat's roots in one cut). By AI agents, Wed Nov 11 2026. No macro, syntax, notation, axiom, sorry.
-/
import Derived.Test.YtcfeckpbjdipeaaChecked
import GoSem.Claim
import GoSem.ClaimJoined
import GoSem.ClaimMapViews
import Derived.JoinedTies
import Derived.KernelRfl
namespace Go.Proofs.Ytcfeckpbjdipeaa
/- THE CELL 'sum', in the pinned program and in every row, IS THE sha256 OF THE DUMP (.gsa) THAT YtcfeckpbjdipeaaProg.lean LOADS. Nothing in Lean hashes anything: it is a label: what it is worth is what the hold of that sum in a sandbox is worth. -/
noncomputable def Try.pinned : Pinned := { name := "ytcfeckpbjdipeaa", sum := "0efa4e142fd6e5101ebdf4036230685d2aaf79da0f7bb2a5405d6ef37d6ef6c7", checked := Try.checked }
namespace Rows
def none {H : Type} : Left H := { results := [], args := [] }

/-- 'laws.FnPeak': WHATEVER THE INPUT: true; the input reads as it did. -/
def fnPeakSpec : ChangeSpec := { name := "fnPeak", fn := fun _ => fun
  | [d] => { results := [.lit (.bool true)], args := [d] }
  | _ => none }
def fnPeakRow : OpenClaim := { program := "ytcfeckpbjdipeaa", sum := "0efa4e142fd6e5101ebdf4036230685d2aaf79da0f7bb2a5405d6ef37d6ef6c7", func := "loop.example/reliefmaps/laws.FnPeak", spec := "fnPeak", unfollowed := true, recurses := true, apart := false }
def FnPeakSaid : Prop := fnPeakRow.holds Try.pinned (OpenSpec.ofChange fnPeakSpec)

/-- ITS FALSE NEIGHBOUR: 'it returns false'. Refute it at one input. -/
def fnPeakWrong : ChangeSpec := { name := "fnPeak", fn := fun _ => fun
  | [d] => { results := [.lit (.bool false)], args := [d] }
  | _ => none }
def FnPeakWrongFalsely : Prop := fnPeakRow.holds Try.pinned (OpenSpec.ofChange fnPeakWrong)

/-- 'laws.FnPass': WHATEVER THE INPUT: true; the input reads as it did. -/
def fnPassSpec : ChangeSpec := { name := "fnPass", fn := fun _ => fun
  | [d1, d2] => { results := [.lit (.bool true)], args := [d1, d2] }
  | _ => none }
def fnPassRow : OpenClaim := { program := "ytcfeckpbjdipeaa", sum := "0efa4e142fd6e5101ebdf4036230685d2aaf79da0f7bb2a5405d6ef37d6ef6c7", func := "loop.example/reliefmaps/laws.FnPass", spec := "fnPass", unfollowed := true, recurses := true, apart := false }
def FnPassSaid : Prop := fnPassRow.holds Try.pinned (OpenSpec.ofChange fnPassSpec)

/-- ITS FALSE NEIGHBOUR: 'it returns false'. Refute it at one input. -/
def fnPassWrong : ChangeSpec := { name := "fnPass", fn := fun _ => fun
  | [d1, d2] => { results := [.lit (.bool false)], args := [d1, d2] }
  | _ => none }
def FnPassWrongFalsely : Prop := fnPassRow.holds Try.pinned (OpenSpec.ofChange fnPassWrong)

/-- 'laws.FnKey': WHATEVER THE INPUT: true; the input reads as it did. -/
def fnKeySpec : ChangeSpec := { name := "fnKey", fn := fun _ => fun
  | [d] => { results := [.lit (.bool true)], args := [d] }
  | _ => none }
def fnKeyRow : OpenClaim := { program := "ytcfeckpbjdipeaa", sum := "0efa4e142fd6e5101ebdf4036230685d2aaf79da0f7bb2a5405d6ef37d6ef6c7", func := "loop.example/reliefmaps/laws.FnKey", spec := "fnKey", unfollowed := true, recurses := true, apart := false }
def FnKeySaid : Prop := fnKeyRow.holds Try.pinned (OpenSpec.ofChange fnKeySpec)

/-- ITS FALSE NEIGHBOUR: 'it returns false'. Refute it at one input. -/
def fnKeyWrong : ChangeSpec := { name := "fnKey", fn := fun _ => fun
  | [d] => { results := [.lit (.bool false)], args := [d] }
  | _ => none }
def FnKeyWrongFalsely : Prop := fnKeyRow.holds Try.pinned (OpenSpec.ofChange fnKeyWrong)

/-- 'laws.FnProminence': WHATEVER THE INPUT: true; the input reads as it did. -/
def fnProminenceSpec : ChangeSpec := { name := "fnProminence", fn := fun _ => fun
  | [d] => { results := [.lit (.bool true)], args := [d] }
  | _ => none }
def fnProminenceRow : OpenClaim := { program := "ytcfeckpbjdipeaa", sum := "0efa4e142fd6e5101ebdf4036230685d2aaf79da0f7bb2a5405d6ef37d6ef6c7", func := "loop.example/reliefmaps/laws.FnProminence", spec := "fnProminence", unfollowed := true, recurses := true, apart := false }
def FnProminenceSaid : Prop := fnProminenceRow.holds Try.pinned (OpenSpec.ofChange fnProminenceSpec)

/-- ITS FALSE NEIGHBOUR: 'it returns false'. Refute it at one input. -/
def fnProminenceWrong : ChangeSpec := { name := "fnProminence", fn := fun _ => fun
  | [d] => { results := [.lit (.bool false)], args := [d] }
  | _ => none }
def FnProminenceWrongFalsely : Prop := fnProminenceRow.holds Try.pinned (OpenSpec.ofChange fnProminenceWrong)

/-- 'laws.FnPeakMost': WHATEVER THE INPUT: true; the input reads as it did. -/
def fnPeakMostSpec : ChangeSpec := { name := "fnPeakMost", fn := fun _ => fun
  | [d] => { results := [.lit (.bool true)], args := [d] }
  | _ => none }
def fnPeakMostRow : OpenClaim := { program := "ytcfeckpbjdipeaa", sum := "0efa4e142fd6e5101ebdf4036230685d2aaf79da0f7bb2a5405d6ef37d6ef6c7", func := "loop.example/reliefmaps/laws.FnPeakMost", spec := "fnPeakMost", unfollowed := true, recurses := true, apart := false }
def FnPeakMostSaid : Prop := fnPeakMostRow.holds Try.pinned (OpenSpec.ofChange fnPeakMostSpec)

/-- ITS FALSE NEIGHBOUR: 'it returns false'. Refute it at one input. -/
def fnPeakMostWrong : ChangeSpec := { name := "fnPeakMost", fn := fun _ => fun
  | [d] => { results := [.lit (.bool false)], args := [d] }
  | _ => none }
def FnPeakMostWrongFalsely : Prop := fnPeakMostRow.holds Try.pinned (OpenSpec.ofChange fnPeakMostWrong)

/-- 'laws.FnIsland': WHATEVER THE INPUT: true; the input reads as it did. -/
def fnIslandSpec : ChangeSpec := { name := "fnIsland", fn := fun _ => fun
  | [d] => { results := [.lit (.bool true)], args := [d] }
  | _ => none }
def fnIslandRow : OpenClaim := { program := "ytcfeckpbjdipeaa", sum := "0efa4e142fd6e5101ebdf4036230685d2aaf79da0f7bb2a5405d6ef37d6ef6c7", func := "loop.example/reliefmaps/laws.FnIsland", spec := "fnIsland", unfollowed := true, recurses := true, apart := false }
def FnIslandSaid : Prop := fnIslandRow.holds Try.pinned (OpenSpec.ofChange fnIslandSpec)

/-- ITS FALSE NEIGHBOUR: 'it returns false'. Refute it at one input. -/
def fnIslandWrong : ChangeSpec := { name := "fnIsland", fn := fun _ => fun
  | [d] => { results := [.lit (.bool false)], args := [d] }
  | _ => none }
def FnIslandWrongFalsely : Prop := fnIslandRow.holds Try.pinned (OpenSpec.ofChange fnIslandWrong)

/-- 'laws.FnPeakSum': WHATEVER THE INPUT: true; the input reads as it did. -/
def fnPeakSumSpec : ChangeSpec := { name := "fnPeakSum", fn := fun _ => fun
  | [d] => { results := [.lit (.bool true)], args := [d] }
  | _ => none }
def fnPeakSumRow : OpenClaim := { program := "ytcfeckpbjdipeaa", sum := "0efa4e142fd6e5101ebdf4036230685d2aaf79da0f7bb2a5405d6ef37d6ef6c7", func := "loop.example/reliefmaps/laws.FnPeakSum", spec := "fnPeakSum", unfollowed := true, recurses := true, apart := false }
def FnPeakSumSaid : Prop := fnPeakSumRow.holds Try.pinned (OpenSpec.ofChange fnPeakSumSpec)

/-- ITS FALSE NEIGHBOUR: 'it returns false'. Refute it at one input. -/
def fnPeakSumWrong : ChangeSpec := { name := "fnPeakSum", fn := fun _ => fun
  | [d] => { results := [.lit (.bool false)], args := [d] }
  | _ => none }
def FnPeakSumWrongFalsely : Prop := fnPeakSumRow.holds Try.pinned (OpenSpec.ofChange fnPeakSumWrong)

/-- 'laws.FnPits': WHATEVER THE INPUT: true; the input reads as it did. -/
def fnPitsSpec : ChangeSpec := { name := "fnPits", fn := fun _ => fun
  | [d] => { results := [.lit (.bool true)], args := [d] }
  | _ => none }
def fnPitsRow : OpenClaim := { program := "ytcfeckpbjdipeaa", sum := "0efa4e142fd6e5101ebdf4036230685d2aaf79da0f7bb2a5405d6ef37d6ef6c7", func := "loop.example/reliefmaps/laws.FnPits", spec := "fnPits", unfollowed := true, recurses := true, apart := false }
def FnPitsSaid : Prop := fnPitsRow.holds Try.pinned (OpenSpec.ofChange fnPitsSpec)

/-- ITS FALSE NEIGHBOUR: 'it returns false'. Refute it at one input. -/
def fnPitsWrong : ChangeSpec := { name := "fnPits", fn := fun _ => fun
  | [d] => { results := [.lit (.bool false)], args := [d] }
  | _ => none }
def FnPitsWrongFalsely : Prop := fnPitsRow.holds Try.pinned (OpenSpec.ofChange fnPitsWrong)

/-- 'laws.FnPeakRegions': WHATEVER THE INPUT: true; the input reads as it did. -/
def fnPeakRegionsSpec : ChangeSpec := { name := "fnPeakRegions", fn := fun _ => fun
  | [d] => { results := [.lit (.bool true)], args := [d] }
  | _ => none }
def fnPeakRegionsRow : OpenClaim := { program := "ytcfeckpbjdipeaa", sum := "0efa4e142fd6e5101ebdf4036230685d2aaf79da0f7bb2a5405d6ef37d6ef6c7", func := "loop.example/reliefmaps/laws.FnPeakRegions", spec := "fnPeakRegions", unfollowed := true, recurses := true, apart := false }
def FnPeakRegionsSaid : Prop := fnPeakRegionsRow.holds Try.pinned (OpenSpec.ofChange fnPeakRegionsSpec)

/-- ITS FALSE NEIGHBOUR: 'it returns false'. Refute it at one input. -/
def fnPeakRegionsWrong : ChangeSpec := { name := "fnPeakRegions", fn := fun _ => fun
  | [d] => { results := [.lit (.bool false)], args := [d] }
  | _ => none }
def FnPeakRegionsWrongFalsely : Prop := fnPeakRegionsRow.holds Try.pinned (OpenSpec.ofChange fnPeakRegionsWrong)

/- THE SECOND FORM. 'bulk': how many values and letters a reading holds, each counted each time it is reached (what is shared counts as often as it is met; a slice's spare places count too). A statement '..UptoSaid' is the law's where the arguments, and the package variables that the reading takes, are together of bulk at most 1048576: NARROWER than '..Said'. Prove '..Said' where nothing that the law and all that it calls make is longer than what came in: it says more and counts as full. Else prove '..UptoSaid'. A law counts once. -/
mutual
def uptoBulk {H : Type} : DataW H → Nat
  | .lit (.string bytes) => bytes.length + 1
  | .lit _ => 1
  | .nil => 1
  | .ptr d => uptoBulk d + 1
  | .slice elems spare => uptoBulkAll elems + uptoBulkAll spare + 1
  | .agg parts => uptoBulkAll parts + 1
  | .iface _ d => uptoBulk d + 1
  | .map entries => uptoBulkEntries entries + 1
  | .held _ => 1
def uptoBulkAll {H : Type} : List (DataW H) → Nat
  | [] => 0
  | d :: r => uptoBulk d + uptoBulkAll r
def uptoBulkEntries {H : Type} : List (Lit × DataW H) → Nat
  | [] => 0
  | x :: r => uptoBulkEntry x + uptoBulkEntries r
def uptoBulkEntry {H : Type} : Lit × DataW H → Nat
  | (.string bytes, d) => bytes.length + uptoBulk d + 1
  | (_, d) => uptoBulk d + 1
 end
def uptoSmall : (H : Type) → List (DataW H) → Bool := fun _ ds => decide (uptoBulkAll ds ≤ 1048576)
def OpenSpec.upto (s : _root_.Go.ChangeSpec) : _root_.Go.OpenSpec := { _root_.Go.OpenSpec.ofChange s with cond := some uptoSmall }

/-- 'laws.FnPeak', WHERE WHAT IT READS IS OF BULK AT MOST 1048576: true; the input reads as it did. -/
def fnPeakUptoRow : OpenClaim := { program := "ytcfeckpbjdipeaa", sum := "0efa4e142fd6e5101ebdf4036230685d2aaf79da0f7bb2a5405d6ef37d6ef6c7", func := "loop.example/reliefmaps/laws.FnPeak", spec := "fnPeak", unfollowed := true, recurses := true, apart := false, narrowed := true }
def FnPeakUptoSaid : Prop := fnPeakUptoRow.holds Try.pinned (OpenSpec.upto fnPeakSpec)

/-- 'laws.FnPass', WHERE WHAT IT READS IS OF BULK AT MOST 1048576: true; the input reads as it did. -/
def fnPassUptoRow : OpenClaim := { program := "ytcfeckpbjdipeaa", sum := "0efa4e142fd6e5101ebdf4036230685d2aaf79da0f7bb2a5405d6ef37d6ef6c7", func := "loop.example/reliefmaps/laws.FnPass", spec := "fnPass", unfollowed := true, recurses := true, apart := false, narrowed := true }
def FnPassUptoSaid : Prop := fnPassUptoRow.holds Try.pinned (OpenSpec.upto fnPassSpec)

/-- 'laws.FnKey', WHERE WHAT IT READS IS OF BULK AT MOST 1048576: true; the input reads as it did. -/
def fnKeyUptoRow : OpenClaim := { program := "ytcfeckpbjdipeaa", sum := "0efa4e142fd6e5101ebdf4036230685d2aaf79da0f7bb2a5405d6ef37d6ef6c7", func := "loop.example/reliefmaps/laws.FnKey", spec := "fnKey", unfollowed := true, recurses := true, apart := false, narrowed := true }
def FnKeyUptoSaid : Prop := fnKeyUptoRow.holds Try.pinned (OpenSpec.upto fnKeySpec)

/-- 'laws.FnProminence', WHERE WHAT IT READS IS OF BULK AT MOST 1048576: true; the input reads as it did. -/
def fnProminenceUptoRow : OpenClaim := { program := "ytcfeckpbjdipeaa", sum := "0efa4e142fd6e5101ebdf4036230685d2aaf79da0f7bb2a5405d6ef37d6ef6c7", func := "loop.example/reliefmaps/laws.FnProminence", spec := "fnProminence", unfollowed := true, recurses := true, apart := false, narrowed := true }
def FnProminenceUptoSaid : Prop := fnProminenceUptoRow.holds Try.pinned (OpenSpec.upto fnProminenceSpec)

/-- 'laws.FnPeakMost', WHERE WHAT IT READS IS OF BULK AT MOST 1048576: true; the input reads as it did. -/
def fnPeakMostUptoRow : OpenClaim := { program := "ytcfeckpbjdipeaa", sum := "0efa4e142fd6e5101ebdf4036230685d2aaf79da0f7bb2a5405d6ef37d6ef6c7", func := "loop.example/reliefmaps/laws.FnPeakMost", spec := "fnPeakMost", unfollowed := true, recurses := true, apart := false, narrowed := true }
def FnPeakMostUptoSaid : Prop := fnPeakMostUptoRow.holds Try.pinned (OpenSpec.upto fnPeakMostSpec)

/-- 'laws.FnIsland', WHERE WHAT IT READS IS OF BULK AT MOST 1048576: true; the input reads as it did. -/
def fnIslandUptoRow : OpenClaim := { program := "ytcfeckpbjdipeaa", sum := "0efa4e142fd6e5101ebdf4036230685d2aaf79da0f7bb2a5405d6ef37d6ef6c7", func := "loop.example/reliefmaps/laws.FnIsland", spec := "fnIsland", unfollowed := true, recurses := true, apart := false, narrowed := true }
def FnIslandUptoSaid : Prop := fnIslandUptoRow.holds Try.pinned (OpenSpec.upto fnIslandSpec)

/-- 'laws.FnPeakSum', WHERE WHAT IT READS IS OF BULK AT MOST 1048576: true; the input reads as it did. -/
def fnPeakSumUptoRow : OpenClaim := { program := "ytcfeckpbjdipeaa", sum := "0efa4e142fd6e5101ebdf4036230685d2aaf79da0f7bb2a5405d6ef37d6ef6c7", func := "loop.example/reliefmaps/laws.FnPeakSum", spec := "fnPeakSum", unfollowed := true, recurses := true, apart := false, narrowed := true }
def FnPeakSumUptoSaid : Prop := fnPeakSumUptoRow.holds Try.pinned (OpenSpec.upto fnPeakSumSpec)

/-- 'laws.FnPits', WHERE WHAT IT READS IS OF BULK AT MOST 1048576: true; the input reads as it did. -/
def fnPitsUptoRow : OpenClaim := { program := "ytcfeckpbjdipeaa", sum := "0efa4e142fd6e5101ebdf4036230685d2aaf79da0f7bb2a5405d6ef37d6ef6c7", func := "loop.example/reliefmaps/laws.FnPits", spec := "fnPits", unfollowed := true, recurses := true, apart := false, narrowed := true }
def FnPitsUptoSaid : Prop := fnPitsUptoRow.holds Try.pinned (OpenSpec.upto fnPitsSpec)

/-- 'laws.FnPeakRegions', WHERE WHAT IT READS IS OF BULK AT MOST 1048576: true; the input reads as it did. -/
def fnPeakRegionsUptoRow : OpenClaim := { program := "ytcfeckpbjdipeaa", sum := "0efa4e142fd6e5101ebdf4036230685d2aaf79da0f7bb2a5405d6ef37d6ef6c7", func := "loop.example/reliefmaps/laws.FnPeakRegions", spec := "fnPeakRegions", unfollowed := true, recurses := true, apart := false, narrowed := true }
def FnPeakRegionsUptoSaid : Prop := fnPeakRegionsUptoRow.holds Try.pinned (OpenSpec.upto fnPeakRegionsSpec)

end Rows
end Go.Proofs.Ytcfeckpbjdipeaa
