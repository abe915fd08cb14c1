/-
  No cell of these rows narrows 'for every input' (looked for: loops, veiled, ifaces, maps, wideKeys, modest, calm, conditions, laid).
  DERIVED. THE GIVEN ROWS OF THIS SEAT. 11 by the template 'for every input the law returns true; each argument reads behind the call as it read before'; 0 by the template 'total and deterministic' (their statements: YtmfdflkpbejpoaaTotals.lean).
  GIVEN WITH THE SEED: the statements are not yours to turn. If you find one false, say at which input.
  Laid BY PROGRAM, IN A SANDBOX (cutbox-rows.mjs): the forced cells as the released guide's own fill.sh prints them over the translation f3a9acbffa1fe471… (all of the seat's roots in one cut). By AI agents, Wed Nov 11 2026. No macro, syntax, notation, axiom, sorry.
-/
import Derived.Test.YtmfdflkpbejpoaaChecked
import GoSem.Claim
import GoSem.ClaimJoined
import GoSem.ClaimMapViews
import Derived.JoinedTies
import Derived.KernelRfl
namespace Go.Proofs.Ytmfdflkpbejpoaa
/- THE CELL 'sum', in the pinned program and in every row, IS THE sha256 OF THE DUMP (.gsa) THAT YtmfdflkpbejpoaaProg.lean LOADS. Nothing in Lean hashes anything: it is a label: what it is worth is what the hold of that sum in a sandbox is worth. -/
noncomputable def Try.pinned : Pinned := { name := "ytmfdflkpbejpoaa", sum := "f3a9acbffa1fe4717d9466c9ad075ed5d0121b9fadc0eb8628c6a85920755a8b", checked := Try.checked }
namespace Rows
def none {H : Type} : Left H := { results := [], args := [] }

/-- 'laws.FnThinValid': WHATEVER THE INPUT: true; the input reads as it did. -/
def fnThinValidSpec : ChangeSpec := { name := "fnThinValid", fn := fun _ => fun
  | [d] => { results := [.lit (.bool true)], args := [d] }
  | _ => none }
def fnThinValidRow : OpenClaim := { program := "ytmfdflkpbejpoaa", sum := "f3a9acbffa1fe4717d9466c9ad075ed5d0121b9fadc0eb8628c6a85920755a8b", func := "loop.example/reliefmaps/laws.FnThinValid", spec := "fnThinValid", unfollowed := true, recurses := true, apart := false }
def FnThinValidSaid : Prop := fnThinValidRow.holds Try.pinned (OpenSpec.ofChange fnThinValidSpec)

/-- ITS FALSE NEIGHBOUR: 'it returns false'. Refute it at one input. -/
def fnThinValidWrong : ChangeSpec := { name := "fnThinValid", fn := fun _ => fun
  | [d] => { results := [.lit (.bool false)], args := [d] }
  | _ => none }
def FnThinValidWrongFalsely : Prop := fnThinValidRow.holds Try.pinned (OpenSpec.ofChange fnThinValidWrong)

/-- 'laws.FnThinError': WHATEVER THE INPUT: true; the input reads as it did. -/
def fnThinErrorSpec : ChangeSpec := { name := "fnThinError", fn := fun _ => fun
  | [d] => { results := [.lit (.bool true)], args := [d] }
  | _ => none }
def fnThinErrorRow : OpenClaim := { program := "ytmfdflkpbejpoaa", sum := "f3a9acbffa1fe4717d9466c9ad075ed5d0121b9fadc0eb8628c6a85920755a8b", func := "loop.example/reliefmaps/laws.FnThinError", spec := "fnThinError", unfollowed := true, recurses := true, apart := false }
def FnThinErrorSaid : Prop := fnThinErrorRow.holds Try.pinned (OpenSpec.ofChange fnThinErrorSpec)

/-- ITS FALSE NEIGHBOUR: 'it returns false'. Refute it at one input. -/
def fnThinErrorWrong : ChangeSpec := { name := "fnThinError", fn := fun _ => fun
  | [d] => { results := [.lit (.bool false)], args := [d] }
  | _ => none }
def FnThinErrorWrongFalsely : Prop := fnThinErrorRow.holds Try.pinned (OpenSpec.ofChange fnThinErrorWrong)

/-- 'laws.FnThinKeeps': WHATEVER THE INPUT: true; the input reads as it did. -/
def fnThinKeepsSpec : ChangeSpec := { name := "fnThinKeeps", fn := fun _ => fun
  | [d] => { results := [.lit (.bool true)], args := [d] }
  | _ => none }
def fnThinKeepsRow : OpenClaim := { program := "ytmfdflkpbejpoaa", sum := "f3a9acbffa1fe4717d9466c9ad075ed5d0121b9fadc0eb8628c6a85920755a8b", func := "loop.example/reliefmaps/laws.FnThinKeeps", spec := "fnThinKeeps", unfollowed := true, recurses := true, apart := false }
def FnThinKeepsSaid : Prop := fnThinKeepsRow.holds Try.pinned (OpenSpec.ofChange fnThinKeepsSpec)

/-- ITS FALSE NEIGHBOUR: 'it returns false'. Refute it at one input. -/
def fnThinKeepsWrong : ChangeSpec := { name := "fnThinKeeps", fn := fun _ => fun
  | [d] => { results := [.lit (.bool false)], args := [d] }
  | _ => none }
def FnThinKeepsWrongFalsely : Prop := fnThinKeepsRow.holds Try.pinned (OpenSpec.ofChange fnThinKeepsWrong)

/-- 'laws.FnThinFewest': WHATEVER THE INPUT: true; the input reads as it did. -/
def fnThinFewestSpec : ChangeSpec := { name := "fnThinFewest", fn := fun _ => fun
  | [d] => { results := [.lit (.bool true)], args := [d] }
  | _ => none }
def fnThinFewestRow : OpenClaim := { program := "ytmfdflkpbejpoaa", sum := "f3a9acbffa1fe4717d9466c9ad075ed5d0121b9fadc0eb8628c6a85920755a8b", func := "loop.example/reliefmaps/laws.FnThinFewest", spec := "fnThinFewest", unfollowed := true, recurses := true, apart := false }
def FnThinFewestSaid : Prop := fnThinFewestRow.holds Try.pinned (OpenSpec.ofChange fnThinFewestSpec)

/-- ITS FALSE NEIGHBOUR: 'it returns false'. Refute it at one input. -/
def fnThinFewestWrong : ChangeSpec := { name := "fnThinFewest", fn := fun _ => fun
  | [d] => { results := [.lit (.bool false)], args := [d] }
  | _ => none }
def FnThinFewestWrongFalsely : Prop := fnThinFewestRow.holds Try.pinned (OpenSpec.ofChange fnThinFewestWrong)

/-- 'laws.FnThinBest': WHATEVER THE INPUT: true; the input reads as it did. -/
def fnThinBestSpec : ChangeSpec := { name := "fnThinBest", fn := fun _ => fun
  | [d] => { results := [.lit (.bool true)], args := [d] }
  | _ => none }
def fnThinBestRow : OpenClaim := { program := "ytmfdflkpbejpoaa", sum := "f3a9acbffa1fe4717d9466c9ad075ed5d0121b9fadc0eb8628c6a85920755a8b", func := "loop.example/reliefmaps/laws.FnThinBest", spec := "fnThinBest", unfollowed := true, recurses := true, apart := false }
def FnThinBestSaid : Prop := fnThinBestRow.holds Try.pinned (OpenSpec.ofChange fnThinBestSpec)

/-- ITS FALSE NEIGHBOUR: 'it returns false'. Refute it at one input. -/
def fnThinBestWrong : ChangeSpec := { name := "fnThinBest", fn := fun _ => fun
  | [d] => { results := [.lit (.bool false)], args := [d] }
  | _ => none }
def FnThinBestWrongFalsely : Prop := fnThinBestRow.holds Try.pinned (OpenSpec.ofChange fnThinBestWrong)

/-- 'laws.FnThinGreedy': WHATEVER THE INPUT: true; the input reads as it did. -/
def fnThinGreedySpec : ChangeSpec := { name := "fnThinGreedy", fn := fun _ => fun
  | [d] => { results := [.lit (.bool true)], args := [d] }
  | _ => none }
def fnThinGreedyRow : OpenClaim := { program := "ytmfdflkpbejpoaa", sum := "f3a9acbffa1fe4717d9466c9ad075ed5d0121b9fadc0eb8628c6a85920755a8b", func := "loop.example/reliefmaps/laws.FnThinGreedy", spec := "fnThinGreedy", unfollowed := true, recurses := true, apart := false }
def FnThinGreedySaid : Prop := fnThinGreedyRow.holds Try.pinned (OpenSpec.ofChange fnThinGreedySpec)

/-- ITS FALSE NEIGHBOUR: 'it returns false'. Refute it at one input. -/
def fnThinGreedyWrong : ChangeSpec := { name := "fnThinGreedy", fn := fun _ => fun
  | [d] => { results := [.lit (.bool false)], args := [d] }
  | _ => none }
def FnThinGreedyWrongFalsely : Prop := fnThinGreedyRow.holds Try.pinned (OpenSpec.ofChange fnThinGreedyWrong)

/-- 'laws.FnThinLeast': WHATEVER THE INPUT: true; the input reads as it did. -/
def fnThinLeastSpec : ChangeSpec := { name := "fnThinLeast", fn := fun _ => fun
  | [d] => { results := [.lit (.bool true)], args := [d] }
  | _ => none }
def fnThinLeastRow : OpenClaim := { program := "ytmfdflkpbejpoaa", sum := "f3a9acbffa1fe4717d9466c9ad075ed5d0121b9fadc0eb8628c6a85920755a8b", func := "loop.example/reliefmaps/laws.FnThinLeast", spec := "fnThinLeast", unfollowed := true, recurses := true, apart := false }
def FnThinLeastSaid : Prop := fnThinLeastRow.holds Try.pinned (OpenSpec.ofChange fnThinLeastSpec)

/-- ITS FALSE NEIGHBOUR: 'it returns false'. Refute it at one input. -/
def fnThinLeastWrong : ChangeSpec := { name := "fnThinLeast", fn := fun _ => fun
  | [d] => { results := [.lit (.bool false)], args := [d] }
  | _ => none }
def FnThinLeastWrongFalsely : Prop := fnThinLeastRow.holds Try.pinned (OpenSpec.ofChange fnThinLeastWrong)

/-- 'laws.FnThinProfile': WHATEVER THE INPUT: true; the input reads as it did. -/
def fnThinProfileSpec : ChangeSpec := { name := "fnThinProfile", fn := fun _ => fun
  | [d] => { results := [.lit (.bool true)], args := [d] }
  | _ => none }
def fnThinProfileRow : OpenClaim := { program := "ytmfdflkpbejpoaa", sum := "f3a9acbffa1fe4717d9466c9ad075ed5d0121b9fadc0eb8628c6a85920755a8b", func := "loop.example/reliefmaps/laws.FnThinProfile", spec := "fnThinProfile", unfollowed := true, recurses := true, apart := false }
def FnThinProfileSaid : Prop := fnThinProfileRow.holds Try.pinned (OpenSpec.ofChange fnThinProfileSpec)

/-- ITS FALSE NEIGHBOUR: 'it returns false'. Refute it at one input. -/
def fnThinProfileWrong : ChangeSpec := { name := "fnThinProfile", fn := fun _ => fun
  | [d] => { results := [.lit (.bool false)], args := [d] }
  | _ => none }
def FnThinProfileWrongFalsely : Prop := fnThinProfileRow.holds Try.pinned (OpenSpec.ofChange fnThinProfileWrong)

/-- 'laws.FnThinHalf': WHATEVER THE INPUT: true; the input reads as it did. -/
def fnThinHalfSpec : ChangeSpec := { name := "fnThinHalf", fn := fun _ => fun
  | [d] => { results := [.lit (.bool true)], args := [d] }
  | _ => none }
def fnThinHalfRow : OpenClaim := { program := "ytmfdflkpbejpoaa", sum := "f3a9acbffa1fe4717d9466c9ad075ed5d0121b9fadc0eb8628c6a85920755a8b", func := "loop.example/reliefmaps/laws.FnThinHalf", spec := "fnThinHalf", unfollowed := true, recurses := true, apart := false }
def FnThinHalfSaid : Prop := fnThinHalfRow.holds Try.pinned (OpenSpec.ofChange fnThinHalfSpec)

/-- ITS FALSE NEIGHBOUR: 'it returns false'. Refute it at one input. -/
def fnThinHalfWrong : ChangeSpec := { name := "fnThinHalf", fn := fun _ => fun
  | [d] => { results := [.lit (.bool false)], args := [d] }
  | _ => none }
def FnThinHalfWrongFalsely : Prop := fnThinHalfRow.holds Try.pinned (OpenSpec.ofChange fnThinHalfWrong)

/-- 'laws.FnThinDrop': WHATEVER THE INPUT: true; the input reads as it did. -/
def fnThinDropSpec : ChangeSpec := { name := "fnThinDrop", fn := fun _ => fun
  | [d] => { results := [.lit (.bool true)], args := [d] }
  | _ => none }
def fnThinDropRow : OpenClaim := { program := "ytmfdflkpbejpoaa", sum := "f3a9acbffa1fe4717d9466c9ad075ed5d0121b9fadc0eb8628c6a85920755a8b", func := "loop.example/reliefmaps/laws.FnThinDrop", spec := "fnThinDrop", unfollowed := true, recurses := true, apart := false }
def FnThinDropSaid : Prop := fnThinDropRow.holds Try.pinned (OpenSpec.ofChange fnThinDropSpec)

/-- ITS FALSE NEIGHBOUR: 'it returns false'. Refute it at one input. -/
def fnThinDropWrong : ChangeSpec := { name := "fnThinDrop", fn := fun _ => fun
  | [d] => { results := [.lit (.bool false)], args := [d] }
  | _ => none }
def FnThinDropWrongFalsely : Prop := fnThinDropRow.holds Try.pinned (OpenSpec.ofChange fnThinDropWrong)

/-- 'laws.FnThinJoin': WHATEVER THE INPUT: true; the input reads as it did. -/
def fnThinJoinSpec : ChangeSpec := { name := "fnThinJoin", fn := fun _ => fun
  | [d] => { results := [.lit (.bool true)], args := [d] }
  | _ => none }
def fnThinJoinRow : OpenClaim := { program := "ytmfdflkpbejpoaa", sum := "f3a9acbffa1fe4717d9466c9ad075ed5d0121b9fadc0eb8628c6a85920755a8b", func := "loop.example/reliefmaps/laws.FnThinJoin", spec := "fnThinJoin", unfollowed := true, recurses := true, apart := false }
def FnThinJoinSaid : Prop := fnThinJoinRow.holds Try.pinned (OpenSpec.ofChange fnThinJoinSpec)

/-- ITS FALSE NEIGHBOUR: 'it returns false'. Refute it at one input. -/
def fnThinJoinWrong : ChangeSpec := { name := "fnThinJoin", fn := fun _ => fun
  | [d] => { results := [.lit (.bool false)], args := [d] }
  | _ => none }
def FnThinJoinWrongFalsely : Prop := fnThinJoinRow.holds Try.pinned (OpenSpec.ofChange fnThinJoinWrong)

/- THE SECOND FORM. 'bulk': how many values and letters a reading holds, each counted each time it is reached (what is shared counts as often as it is met; a slice's spare places count too). A statement '..UptoSaid' is the law's where the arguments, and the package variables that the reading takes, are together of bulk at most 1048576: NARROWER than '..Said'. Prove '..Said' where nothing that the law and all that it calls make is longer than what came in: it says more and counts as full. Else prove '..UptoSaid'. A law counts once. -/
mutual
def uptoBulk {H : Type} : DataW H → Nat
  | .lit (.string bytes) => bytes.length + 1
  | .lit _ => 1
  | .nil => 1
  | .ptr d => uptoBulk d + 1
  | .slice elems spare => uptoBulkAll elems + uptoBulkAll spare + 1
  | .agg parts => uptoBulkAll parts + 1
  | .iface _ d => uptoBulk d + 1
  | .map entries => uptoBulkEntries entries + 1
  | .held _ => 1
def uptoBulkAll {H : Type} : List (DataW H) → Nat
  | [] => 0
  | d :: r => uptoBulk d + uptoBulkAll r
def uptoBulkEntries {H : Type} : List (Lit × DataW H) → Nat
  | [] => 0
  | x :: r => uptoBulkEntry x + uptoBulkEntries r
def uptoBulkEntry {H : Type} : Lit × DataW H → Nat
  | (.string bytes, d) => bytes.length + uptoBulk d + 1
  | (_, d) => uptoBulk d + 1
 end
def uptoSmall : (H : Type) → List (DataW H) → Bool := fun _ ds => decide (uptoBulkAll ds ≤ 1048576)
def OpenSpec.upto (s : _root_.Go.ChangeSpec) : _root_.Go.OpenSpec := { _root_.Go.OpenSpec.ofChange s with cond := some uptoSmall }

/-- 'laws.FnThinValid', WHERE WHAT IT READS IS OF BULK AT MOST 1048576: true; the input reads as it did. -/
def fnThinValidUptoRow : OpenClaim := { program := "ytmfdflkpbejpoaa", sum := "f3a9acbffa1fe4717d9466c9ad075ed5d0121b9fadc0eb8628c6a85920755a8b", func := "loop.example/reliefmaps/laws.FnThinValid", spec := "fnThinValid", unfollowed := true, recurses := true, apart := false, narrowed := true }
def FnThinValidUptoSaid : Prop := fnThinValidUptoRow.holds Try.pinned (OpenSpec.upto fnThinValidSpec)

/-- 'laws.FnThinError', WHERE WHAT IT READS IS OF BULK AT MOST 1048576: true; the input reads as it did. -/
def fnThinErrorUptoRow : OpenClaim := { program := "ytmfdflkpbejpoaa", sum := "f3a9acbffa1fe4717d9466c9ad075ed5d0121b9fadc0eb8628c6a85920755a8b", func := "loop.example/reliefmaps/laws.FnThinError", spec := "fnThinError", unfollowed := true, recurses := true, apart := false, narrowed := true }
def FnThinErrorUptoSaid : Prop := fnThinErrorUptoRow.holds Try.pinned (OpenSpec.upto fnThinErrorSpec)

/-- 'laws.FnThinKeeps', WHERE WHAT IT READS IS OF BULK AT MOST 1048576: true; the input reads as it did. -/
def fnThinKeepsUptoRow : OpenClaim := { program := "ytmfdflkpbejpoaa", sum := "f3a9acbffa1fe4717d9466c9ad075ed5d0121b9fadc0eb8628c6a85920755a8b", func := "loop.example/reliefmaps/laws.FnThinKeeps", spec := "fnThinKeeps", unfollowed := true, recurses := true, apart := false, narrowed := true }
def FnThinKeepsUptoSaid : Prop := fnThinKeepsUptoRow.holds Try.pinned (OpenSpec.upto fnThinKeepsSpec)

/-- 'laws.FnThinFewest', WHERE WHAT IT READS IS OF BULK AT MOST 1048576: true; the input reads as it did. -/
def fnThinFewestUptoRow : OpenClaim := { program := "ytmfdflkpbejpoaa", sum := "f3a9acbffa1fe4717d9466c9ad075ed5d0121b9fadc0eb8628c6a85920755a8b", func := "loop.example/reliefmaps/laws.FnThinFewest", spec := "fnThinFewest", unfollowed := true, recurses := true, apart := false, narrowed := true }
def FnThinFewestUptoSaid : Prop := fnThinFewestUptoRow.holds Try.pinned (OpenSpec.upto fnThinFewestSpec)

/-- 'laws.FnThinBest', WHERE WHAT IT READS IS OF BULK AT MOST 1048576: true; the input reads as it did. -/
def fnThinBestUptoRow : OpenClaim := { program := "ytmfdflkpbejpoaa", sum := "f3a9acbffa1fe4717d9466c9ad075ed5d0121b9fadc0eb8628c6a85920755a8b", func := "loop.example/reliefmaps/laws.FnThinBest", spec := "fnThinBest", unfollowed := true, recurses := true, apart := false, narrowed := true }
def FnThinBestUptoSaid : Prop := fnThinBestUptoRow.holds Try.pinned (OpenSpec.upto fnThinBestSpec)

/-- 'laws.FnThinGreedy', WHERE WHAT IT READS IS OF BULK AT MOST 1048576: true; the input reads as it did. -/
def fnThinGreedyUptoRow : OpenClaim := { program := "ytmfdflkpbejpoaa", sum := "f3a9acbffa1fe4717d9466c9ad075ed5d0121b9fadc0eb8628c6a85920755a8b", func := "loop.example/reliefmaps/laws.FnThinGreedy", spec := "fnThinGreedy", unfollowed := true, recurses := true, apart := false, narrowed := true }
def FnThinGreedyUptoSaid : Prop := fnThinGreedyUptoRow.holds Try.pinned (OpenSpec.upto fnThinGreedySpec)

/-- 'laws.FnThinLeast', WHERE WHAT IT READS IS OF BULK AT MOST 1048576: true; the input reads as it did. -/
def fnThinLeastUptoRow : OpenClaim := { program := "ytmfdflkpbejpoaa", sum := "f3a9acbffa1fe4717d9466c9ad075ed5d0121b9fadc0eb8628c6a85920755a8b", func := "loop.example/reliefmaps/laws.FnThinLeast", spec := "fnThinLeast", unfollowed := true, recurses := true, apart := false, narrowed := true }
def FnThinLeastUptoSaid : Prop := fnThinLeastUptoRow.holds Try.pinned (OpenSpec.upto fnThinLeastSpec)

/-- 'laws.FnThinProfile', WHERE WHAT IT READS IS OF BULK AT MOST 1048576: true; the input reads as it did. -/
def fnThinProfileUptoRow : OpenClaim := { program := "ytmfdflkpbejpoaa", sum := "f3a9acbffa1fe4717d9466c9ad075ed5d0121b9fadc0eb8628c6a85920755a8b", func := "loop.example/reliefmaps/laws.FnThinProfile", spec := "fnThinProfile", unfollowed := true, recurses := true, apart := false, narrowed := true }
def FnThinProfileUptoSaid : Prop := fnThinProfileUptoRow.holds Try.pinned (OpenSpec.upto fnThinProfileSpec)

/-- 'laws.FnThinHalf', WHERE WHAT IT READS IS OF BULK AT MOST 1048576: true; the input reads as it did. -/
def fnThinHalfUptoRow : OpenClaim := { program := "ytmfdflkpbejpoaa", sum := "f3a9acbffa1fe4717d9466c9ad075ed5d0121b9fadc0eb8628c6a85920755a8b", func := "loop.example/reliefmaps/laws.FnThinHalf", spec := "fnThinHalf", unfollowed := true, recurses := true, apart := false, narrowed := true }
def FnThinHalfUptoSaid : Prop := fnThinHalfUptoRow.holds Try.pinned (OpenSpec.upto fnThinHalfSpec)

/-- 'laws.FnThinDrop', WHERE WHAT IT READS IS OF BULK AT MOST 1048576: true; the input reads as it did. -/
def fnThinDropUptoRow : OpenClaim := { program := "ytmfdflkpbejpoaa", sum := "f3a9acbffa1fe4717d9466c9ad075ed5d0121b9fadc0eb8628c6a85920755a8b", func := "loop.example/reliefmaps/laws.FnThinDrop", spec := "fnThinDrop", unfollowed := true, recurses := true, apart := false, narrowed := true }
def FnThinDropUptoSaid : Prop := fnThinDropUptoRow.holds Try.pinned (OpenSpec.upto fnThinDropSpec)

/-- 'laws.FnThinJoin', WHERE WHAT IT READS IS OF BULK AT MOST 1048576: true; the input reads as it did. -/
def fnThinJoinUptoRow : OpenClaim := { program := "ytmfdflkpbejpoaa", sum := "f3a9acbffa1fe4717d9466c9ad075ed5d0121b9fadc0eb8628c6a85920755a8b", func := "loop.example/reliefmaps/laws.FnThinJoin", spec := "fnThinJoin", unfollowed := true, recurses := true, apart := false, narrowed := true }
def FnThinJoinUptoSaid : Prop := fnThinJoinUptoRow.holds Try.pinned (OpenSpec.upto fnThinJoinSpec)

end Rows
end Go.Proofs.Ytmfdflkpbejpoaa
