/-
  No cell of these rows narrows 'for every input' (looked for: loops, veiled, ifaces, maps, wideKeys, modest, calm, conditions, laid).
  DERIVED. THE GIVEN ROWS OF THIS SEAT. 11 by the template 'for every input the law returns true; each argument reads behind the call as it read before'; 0 by the template 'total and deterministic' (their statements: YtjepmnngphlgoaaTotals.lean).
  GIVEN WITH THE SEED: the statements are not yours to turn. If you find one false, say at which input.
  Laid BY PROGRAM, IN A SANDBOX (cutbox-rows.mjs): the forced cells as the released guide's own fill.sh prints them over the translation b6216304f20ccf11… (all of the seat's roots in one cut). By AI agents, Wed Nov 11 2026. No macro, syntax, notation, axiom, sorry.
-/
import Derived.Test.YtjepmnngphlgoaaChecked
import GoSem.Claim
import GoSem.ClaimJoined
import GoSem.ClaimMapViews
import Derived.JoinedTies
import Derived.KernelRfl
namespace Go.Proofs.Ytjepmnngphlgoaa
/- THE CELL 'sum', in the pinned program and in every row, IS THE sha256 OF THE DUMP (.gsa) THAT YtjepmnngphlgoaaProg.lean LOADS. Nothing in Lean hashes anything: it is a label: what it is worth is what the hold of that sum in a sandbox is worth. -/
noncomputable def Try.pinned : Pinned := { name := "ytjepmnngphlgoaa", sum := "b6216304f20ccf11b5c77d1731e9e976ca5b85ae8ecbfbab323b7333db44181b", checked := Try.checked }
namespace Rows
def none {H : Type} : Left H := { results := [], args := [] }

/-- 'laws.FnExactThinValid': WHATEVER THE INPUT: true; the input reads as it did. -/
def fnExactThinValidSpec : ChangeSpec := { name := "fnExactThinValid", fn := fun _ => fun
  | [d1, d2] => { results := [.lit (.bool true)], args := [d1, d2] }
  | _ => none }
def fnExactThinValidRow : OpenClaim := { program := "ytjepmnngphlgoaa", sum := "b6216304f20ccf11b5c77d1731e9e976ca5b85ae8ecbfbab323b7333db44181b", func := "loop.example/reliefmaps/laws.FnExactThinValid", spec := "fnExactThinValid", unfollowed := true, recurses := true, apart := false }
def FnExactThinValidSaid : Prop := fnExactThinValidRow.holds Try.pinned (OpenSpec.ofChange fnExactThinValidSpec)

/-- ITS FALSE NEIGHBOUR: 'it returns false'. Refute it at one input. -/
def fnExactThinValidWrong : ChangeSpec := { name := "fnExactThinValid", fn := fun _ => fun
  | [d1, d2] => { results := [.lit (.bool false)], args := [d1, d2] }
  | _ => none }
def FnExactThinValidWrongFalsely : Prop := fnExactThinValidRow.holds Try.pinned (OpenSpec.ofChange fnExactThinValidWrong)

/-- 'laws.FnExactThinError': WHATEVER THE INPUT: true; the input reads as it did. -/
def fnExactThinErrorSpec : ChangeSpec := { name := "fnExactThinError", fn := fun _ => fun
  | [d1, d2] => { results := [.lit (.bool true)], args := [d1, d2] }
  | _ => none }
def fnExactThinErrorRow : OpenClaim := { program := "ytjepmnngphlgoaa", sum := "b6216304f20ccf11b5c77d1731e9e976ca5b85ae8ecbfbab323b7333db44181b", func := "loop.example/reliefmaps/laws.FnExactThinError", spec := "fnExactThinError", unfollowed := true, recurses := true, apart := false }
def FnExactThinErrorSaid : Prop := fnExactThinErrorRow.holds Try.pinned (OpenSpec.ofChange fnExactThinErrorSpec)

/-- ITS FALSE NEIGHBOUR: 'it returns false'. Refute it at one input. -/
def fnExactThinErrorWrong : ChangeSpec := { name := "fnExactThinError", fn := fun _ => fun
  | [d1, d2] => { results := [.lit (.bool false)], args := [d1, d2] }
  | _ => none }
def FnExactThinErrorWrongFalsely : Prop := fnExactThinErrorRow.holds Try.pinned (OpenSpec.ofChange fnExactThinErrorWrong)

/-- 'laws.FnExactThinKeeps': WHATEVER THE INPUT: true; the input reads as it did. -/
def fnExactThinKeepsSpec : ChangeSpec := { name := "fnExactThinKeeps", fn := fun _ => fun
  | [d1, d2, d3] => { results := [.lit (.bool true)], args := [d1, d2, d3] }
  | _ => none }
def fnExactThinKeepsRow : OpenClaim := { program := "ytjepmnngphlgoaa", sum := "b6216304f20ccf11b5c77d1731e9e976ca5b85ae8ecbfbab323b7333db44181b", func := "loop.example/reliefmaps/laws.FnExactThinKeeps", spec := "fnExactThinKeeps", unfollowed := true, recurses := true, apart := false }
def FnExactThinKeepsSaid : Prop := fnExactThinKeepsRow.holds Try.pinned (OpenSpec.ofChange fnExactThinKeepsSpec)

/-- ITS FALSE NEIGHBOUR: 'it returns false'. Refute it at one input. -/
def fnExactThinKeepsWrong : ChangeSpec := { name := "fnExactThinKeeps", fn := fun _ => fun
  | [d1, d2, d3] => { results := [.lit (.bool false)], args := [d1, d2, d3] }
  | _ => none }
def FnExactThinKeepsWrongFalsely : Prop := fnExactThinKeepsRow.holds Try.pinned (OpenSpec.ofChange fnExactThinKeepsWrong)

/-- 'laws.FnExactThinFewest': WHATEVER THE INPUT: true; the input reads as it did. -/
def fnExactThinFewestSpec : ChangeSpec := { name := "fnExactThinFewest", fn := fun _ => fun
  | [d1, d2] => { results := [.lit (.bool true)], args := [d1, d2] }
  | _ => none }
def fnExactThinFewestRow : OpenClaim := { program := "ytjepmnngphlgoaa", sum := "b6216304f20ccf11b5c77d1731e9e976ca5b85ae8ecbfbab323b7333db44181b", func := "loop.example/reliefmaps/laws.FnExactThinFewest", spec := "fnExactThinFewest", unfollowed := true, recurses := true, apart := false }
def FnExactThinFewestSaid : Prop := fnExactThinFewestRow.holds Try.pinned (OpenSpec.ofChange fnExactThinFewestSpec)

/-- ITS FALSE NEIGHBOUR: 'it returns false'. Refute it at one input. -/
def fnExactThinFewestWrong : ChangeSpec := { name := "fnExactThinFewest", fn := fun _ => fun
  | [d1, d2] => { results := [.lit (.bool false)], args := [d1, d2] }
  | _ => none }
def FnExactThinFewestWrongFalsely : Prop := fnExactThinFewestRow.holds Try.pinned (OpenSpec.ofChange fnExactThinFewestWrong)

/-- 'laws.FnExactThinBest': WHATEVER THE INPUT: true; the input reads as it did. -/
def fnExactThinBestSpec : ChangeSpec := { name := "fnExactThinBest", fn := fun _ => fun
  | [d1, d2] => { results := [.lit (.bool true)], args := [d1, d2] }
  | _ => none }
def fnExactThinBestRow : OpenClaim := { program := "ytjepmnngphlgoaa", sum := "b6216304f20ccf11b5c77d1731e9e976ca5b85ae8ecbfbab323b7333db44181b", func := "loop.example/reliefmaps/laws.FnExactThinBest", spec := "fnExactThinBest", unfollowed := true, recurses := true, apart := false }
def FnExactThinBestSaid : Prop := fnExactThinBestRow.holds Try.pinned (OpenSpec.ofChange fnExactThinBestSpec)

/-- ITS FALSE NEIGHBOUR: 'it returns false'. Refute it at one input. -/
def fnExactThinBestWrong : ChangeSpec := { name := "fnExactThinBest", fn := fun _ => fun
  | [d1, d2] => { results := [.lit (.bool false)], args := [d1, d2] }
  | _ => none }
def FnExactThinBestWrongFalsely : Prop := fnExactThinBestRow.holds Try.pinned (OpenSpec.ofChange fnExactThinBestWrong)

/-- 'laws.FnExactThinGreedy': WHATEVER THE INPUT: true; the input reads as it did. -/
def fnExactThinGreedySpec : ChangeSpec := { name := "fnExactThinGreedy", fn := fun _ => fun
  | [d1, d2] => { results := [.lit (.bool true)], args := [d1, d2] }
  | _ => none }
def fnExactThinGreedyRow : OpenClaim := { program := "ytjepmnngphlgoaa", sum := "b6216304f20ccf11b5c77d1731e9e976ca5b85ae8ecbfbab323b7333db44181b", func := "loop.example/reliefmaps/laws.FnExactThinGreedy", spec := "fnExactThinGreedy", unfollowed := true, recurses := true, apart := false }
def FnExactThinGreedySaid : Prop := fnExactThinGreedyRow.holds Try.pinned (OpenSpec.ofChange fnExactThinGreedySpec)

/-- ITS FALSE NEIGHBOUR: 'it returns false'. Refute it at one input. -/
def fnExactThinGreedyWrong : ChangeSpec := { name := "fnExactThinGreedy", fn := fun _ => fun
  | [d1, d2] => { results := [.lit (.bool false)], args := [d1, d2] }
  | _ => none }
def FnExactThinGreedyWrongFalsely : Prop := fnExactThinGreedyRow.holds Try.pinned (OpenSpec.ofChange fnExactThinGreedyWrong)

/-- 'laws.FnExactThinLeast': WHATEVER THE INPUT: true; the input reads as it did. -/
def fnExactThinLeastSpec : ChangeSpec := { name := "fnExactThinLeast", fn := fun _ => fun
  | [d1, d2] => { results := [.lit (.bool true)], args := [d1, d2] }
  | _ => none }
def fnExactThinLeastRow : OpenClaim := { program := "ytjepmnngphlgoaa", sum := "b6216304f20ccf11b5c77d1731e9e976ca5b85ae8ecbfbab323b7333db44181b", func := "loop.example/reliefmaps/laws.FnExactThinLeast", spec := "fnExactThinLeast", unfollowed := true, recurses := true, apart := false }
def FnExactThinLeastSaid : Prop := fnExactThinLeastRow.holds Try.pinned (OpenSpec.ofChange fnExactThinLeastSpec)

/-- ITS FALSE NEIGHBOUR: 'it returns false'. Refute it at one input. -/
def fnExactThinLeastWrong : ChangeSpec := { name := "fnExactThinLeast", fn := fun _ => fun
  | [d1, d2] => { results := [.lit (.bool false)], args := [d1, d2] }
  | _ => none }
def FnExactThinLeastWrongFalsely : Prop := fnExactThinLeastRow.holds Try.pinned (OpenSpec.ofChange fnExactThinLeastWrong)

/-- 'laws.FnExactThinProfile': WHATEVER THE INPUT: true; the input reads as it did. -/
def fnExactThinProfileSpec : ChangeSpec := { name := "fnExactThinProfile", fn := fun _ => fun
  | [d1, d2] => { results := [.lit (.bool true)], args := [d1, d2] }
  | _ => none }
def fnExactThinProfileRow : OpenClaim := { program := "ytjepmnngphlgoaa", sum := "b6216304f20ccf11b5c77d1731e9e976ca5b85ae8ecbfbab323b7333db44181b", func := "loop.example/reliefmaps/laws.FnExactThinProfile", spec := "fnExactThinProfile", unfollowed := true, recurses := true, apart := false }
def FnExactThinProfileSaid : Prop := fnExactThinProfileRow.holds Try.pinned (OpenSpec.ofChange fnExactThinProfileSpec)

/-- ITS FALSE NEIGHBOUR: 'it returns false'. Refute it at one input. -/
def fnExactThinProfileWrong : ChangeSpec := { name := "fnExactThinProfile", fn := fun _ => fun
  | [d1, d2] => { results := [.lit (.bool false)], args := [d1, d2] }
  | _ => none }
def FnExactThinProfileWrongFalsely : Prop := fnExactThinProfileRow.holds Try.pinned (OpenSpec.ofChange fnExactThinProfileWrong)

/-- 'laws.FnExactThinHalf': WHATEVER THE INPUT: true; the input reads as it did. -/
def fnExactThinHalfSpec : ChangeSpec := { name := "fnExactThinHalf", fn := fun _ => fun
  | [d] => { results := [.lit (.bool true)], args := [d] }
  | _ => none }
def fnExactThinHalfRow : OpenClaim := { program := "ytjepmnngphlgoaa", sum := "b6216304f20ccf11b5c77d1731e9e976ca5b85ae8ecbfbab323b7333db44181b", func := "loop.example/reliefmaps/laws.FnExactThinHalf", spec := "fnExactThinHalf", unfollowed := true, recurses := true, apart := false }
def FnExactThinHalfSaid : Prop := fnExactThinHalfRow.holds Try.pinned (OpenSpec.ofChange fnExactThinHalfSpec)

/-- ITS FALSE NEIGHBOUR: 'it returns false'. Refute it at one input. -/
def fnExactThinHalfWrong : ChangeSpec := { name := "fnExactThinHalf", fn := fun _ => fun
  | [d] => { results := [.lit (.bool false)], args := [d] }
  | _ => none }
def FnExactThinHalfWrongFalsely : Prop := fnExactThinHalfRow.holds Try.pinned (OpenSpec.ofChange fnExactThinHalfWrong)

/-- 'laws.FnExactThinDrop': WHATEVER THE INPUT: true; the input reads as it did. -/
def fnExactThinDropSpec : ChangeSpec := { name := "fnExactThinDrop", fn := fun _ => fun
  | [d1, d2, d3] => { results := [.lit (.bool true)], args := [d1, d2, d3] }
  | _ => none }
def fnExactThinDropRow : OpenClaim := { program := "ytjepmnngphlgoaa", sum := "b6216304f20ccf11b5c77d1731e9e976ca5b85ae8ecbfbab323b7333db44181b", func := "loop.example/reliefmaps/laws.FnExactThinDrop", spec := "fnExactThinDrop", unfollowed := true, recurses := true, apart := false }
def FnExactThinDropSaid : Prop := fnExactThinDropRow.holds Try.pinned (OpenSpec.ofChange fnExactThinDropSpec)

/-- ITS FALSE NEIGHBOUR: 'it returns false'. Refute it at one input. -/
def fnExactThinDropWrong : ChangeSpec := { name := "fnExactThinDrop", fn := fun _ => fun
  | [d1, d2, d3] => { results := [.lit (.bool false)], args := [d1, d2, d3] }
  | _ => none }
def FnExactThinDropWrongFalsely : Prop := fnExactThinDropRow.holds Try.pinned (OpenSpec.ofChange fnExactThinDropWrong)

/-- 'laws.FnExactThinJoin': WHATEVER THE INPUT: true; the input reads as it did. -/
def fnExactThinJoinSpec : ChangeSpec := { name := "fnExactThinJoin", fn := fun _ => fun
  | [d1, d2, d3, d4] => { results := [.lit (.bool true)], args := [d1, d2, d3, d4] }
  | _ => none }
def fnExactThinJoinRow : OpenClaim := { program := "ytjepmnngphlgoaa", sum := "b6216304f20ccf11b5c77d1731e9e976ca5b85ae8ecbfbab323b7333db44181b", func := "loop.example/reliefmaps/laws.FnExactThinJoin", spec := "fnExactThinJoin", unfollowed := true, recurses := true, apart := false }
def FnExactThinJoinSaid : Prop := fnExactThinJoinRow.holds Try.pinned (OpenSpec.ofChange fnExactThinJoinSpec)

/-- ITS FALSE NEIGHBOUR: 'it returns false'. Refute it at one input. -/
def fnExactThinJoinWrong : ChangeSpec := { name := "fnExactThinJoin", fn := fun _ => fun
  | [d1, d2, d3, d4] => { results := [.lit (.bool false)], args := [d1, d2, d3, d4] }
  | _ => none }
def FnExactThinJoinWrongFalsely : Prop := fnExactThinJoinRow.holds Try.pinned (OpenSpec.ofChange fnExactThinJoinWrong)

/- THE SECOND FORM. 'bulk': how many values and letters a reading holds, each counted each time it is reached (what is shared counts as often as it is met; a slice's spare places count too). A statement '..UptoSaid' is the law's where the arguments, and the package variables that the reading takes, are together of bulk at most 1048576: NARROWER than '..Said'. Prove '..Said' where nothing that the law and all that it calls make is longer than what came in: it says more and counts as full. Else prove '..UptoSaid'. A law counts once. -/
mutual
def uptoBulk {H : Type} : DataW H → Nat
  | .lit (.string bytes) => bytes.length + 1
  | .lit _ => 1
  | .nil => 1
  | .ptr d => uptoBulk d + 1
  | .slice elems spare => uptoBulkAll elems + uptoBulkAll spare + 1
  | .agg parts => uptoBulkAll parts + 1
  | .iface _ d => uptoBulk d + 1
  | .map entries => uptoBulkEntries entries + 1
  | .held _ => 1
def uptoBulkAll {H : Type} : List (DataW H) → Nat
  | [] => 0
  | d :: r => uptoBulk d + uptoBulkAll r
def uptoBulkEntries {H : Type} : List (Lit × DataW H) → Nat
  | [] => 0
  | x :: r => uptoBulkEntry x + uptoBulkEntries r
def uptoBulkEntry {H : Type} : Lit × DataW H → Nat
  | (.string bytes, d) => bytes.length + uptoBulk d + 1
  | (_, d) => uptoBulk d + 1
 end
def uptoSmall : (H : Type) → List (DataW H) → Bool := fun _ ds => decide (uptoBulkAll ds ≤ 1048576)
def OpenSpec.upto (s : _root_.Go.ChangeSpec) : _root_.Go.OpenSpec := { _root_.Go.OpenSpec.ofChange s with cond := some uptoSmall }

/-- 'laws.FnExactThinValid', WHERE WHAT IT READS IS OF BULK AT MOST 1048576: true; the input reads as it did. -/
def fnExactThinValidUptoRow : OpenClaim := { program := "ytjepmnngphlgoaa", sum := "b6216304f20ccf11b5c77d1731e9e976ca5b85ae8ecbfbab323b7333db44181b", func := "loop.example/reliefmaps/laws.FnExactThinValid", spec := "fnExactThinValid", unfollowed := true, recurses := true, apart := false, narrowed := true }
def FnExactThinValidUptoSaid : Prop := fnExactThinValidUptoRow.holds Try.pinned (OpenSpec.upto fnExactThinValidSpec)

/-- 'laws.FnExactThinError', WHERE WHAT IT READS IS OF BULK AT MOST 1048576: true; the input reads as it did. -/
def fnExactThinErrorUptoRow : OpenClaim := { program := "ytjepmnngphlgoaa", sum := "b6216304f20ccf11b5c77d1731e9e976ca5b85ae8ecbfbab323b7333db44181b", func := "loop.example/reliefmaps/laws.FnExactThinError", spec := "fnExactThinError", unfollowed := true, recurses := true, apart := false, narrowed := true }
def FnExactThinErrorUptoSaid : Prop := fnExactThinErrorUptoRow.holds Try.pinned (OpenSpec.upto fnExactThinErrorSpec)

/-- 'laws.FnExactThinKeeps', WHERE WHAT IT READS IS OF BULK AT MOST 1048576: true; the input reads as it did. -/
def fnExactThinKeepsUptoRow : OpenClaim := { program := "ytjepmnngphlgoaa", sum := "b6216304f20ccf11b5c77d1731e9e976ca5b85ae8ecbfbab323b7333db44181b", func := "loop.example/reliefmaps/laws.FnExactThinKeeps", spec := "fnExactThinKeeps", unfollowed := true, recurses := true, apart := false, narrowed := true }
def FnExactThinKeepsUptoSaid : Prop := fnExactThinKeepsUptoRow.holds Try.pinned (OpenSpec.upto fnExactThinKeepsSpec)

/-- 'laws.FnExactThinFewest', WHERE WHAT IT READS IS OF BULK AT MOST 1048576: true; the input reads as it did. -/
def fnExactThinFewestUptoRow : OpenClaim := { program := "ytjepmnngphlgoaa", sum := "b6216304f20ccf11b5c77d1731e9e976ca5b85ae8ecbfbab323b7333db44181b", func := "loop.example/reliefmaps/laws.FnExactThinFewest", spec := "fnExactThinFewest", unfollowed := true, recurses := true, apart := false, narrowed := true }
def FnExactThinFewestUptoSaid : Prop := fnExactThinFewestUptoRow.holds Try.pinned (OpenSpec.upto fnExactThinFewestSpec)

/-- 'laws.FnExactThinBest', WHERE WHAT IT READS IS OF BULK AT MOST 1048576: true; the input reads as it did. -/
def fnExactThinBestUptoRow : OpenClaim := { program := "ytjepmnngphlgoaa", sum := "b6216304f20ccf11b5c77d1731e9e976ca5b85ae8ecbfbab323b7333db44181b", func := "loop.example/reliefmaps/laws.FnExactThinBest", spec := "fnExactThinBest", unfollowed := true, recurses := true, apart := false, narrowed := true }
def FnExactThinBestUptoSaid : Prop := fnExactThinBestUptoRow.holds Try.pinned (OpenSpec.upto fnExactThinBestSpec)

/-- 'laws.FnExactThinGreedy', WHERE WHAT IT READS IS OF BULK AT MOST 1048576: true; the input reads as it did. -/
def fnExactThinGreedyUptoRow : OpenClaim := { program := "ytjepmnngphlgoaa", sum := "b6216304f20ccf11b5c77d1731e9e976ca5b85ae8ecbfbab323b7333db44181b", func := "loop.example/reliefmaps/laws.FnExactThinGreedy", spec := "fnExactThinGreedy", unfollowed := true, recurses := true, apart := false, narrowed := true }
def FnExactThinGreedyUptoSaid : Prop := fnExactThinGreedyUptoRow.holds Try.pinned (OpenSpec.upto fnExactThinGreedySpec)

/-- 'laws.FnExactThinLeast', WHERE WHAT IT READS IS OF BULK AT MOST 1048576: true; the input reads as it did. -/
def fnExactThinLeastUptoRow : OpenClaim := { program := "ytjepmnngphlgoaa", sum := "b6216304f20ccf11b5c77d1731e9e976ca5b85ae8ecbfbab323b7333db44181b", func := "loop.example/reliefmaps/laws.FnExactThinLeast", spec := "fnExactThinLeast", unfollowed := true, recurses := true, apart := false, narrowed := true }
def FnExactThinLeastUptoSaid : Prop := fnExactThinLeastUptoRow.holds Try.pinned (OpenSpec.upto fnExactThinLeastSpec)

/-- 'laws.FnExactThinProfile', WHERE WHAT IT READS IS OF BULK AT MOST 1048576: true; the input reads as it did. -/
def fnExactThinProfileUptoRow : OpenClaim := { program := "ytjepmnngphlgoaa", sum := "b6216304f20ccf11b5c77d1731e9e976ca5b85ae8ecbfbab323b7333db44181b", func := "loop.example/reliefmaps/laws.FnExactThinProfile", spec := "fnExactThinProfile", unfollowed := true, recurses := true, apart := false, narrowed := true }
def FnExactThinProfileUptoSaid : Prop := fnExactThinProfileUptoRow.holds Try.pinned (OpenSpec.upto fnExactThinProfileSpec)

/-- 'laws.FnExactThinHalf', WHERE WHAT IT READS IS OF BULK AT MOST 1048576: true; the input reads as it did. -/
def fnExactThinHalfUptoRow : OpenClaim := { program := "ytjepmnngphlgoaa", sum := "b6216304f20ccf11b5c77d1731e9e976ca5b85ae8ecbfbab323b7333db44181b", func := "loop.example/reliefmaps/laws.FnExactThinHalf", spec := "fnExactThinHalf", unfollowed := true, recurses := true, apart := false, narrowed := true }
def FnExactThinHalfUptoSaid : Prop := fnExactThinHalfUptoRow.holds Try.pinned (OpenSpec.upto fnExactThinHalfSpec)

/-- 'laws.FnExactThinDrop', WHERE WHAT IT READS IS OF BULK AT MOST 1048576: true; the input reads as it did. -/
def fnExactThinDropUptoRow : OpenClaim := { program := "ytjepmnngphlgoaa", sum := "b6216304f20ccf11b5c77d1731e9e976ca5b85ae8ecbfbab323b7333db44181b", func := "loop.example/reliefmaps/laws.FnExactThinDrop", spec := "fnExactThinDrop", unfollowed := true, recurses := true, apart := false, narrowed := true }
def FnExactThinDropUptoSaid : Prop := fnExactThinDropUptoRow.holds Try.pinned (OpenSpec.upto fnExactThinDropSpec)

/-- 'laws.FnExactThinJoin', WHERE WHAT IT READS IS OF BULK AT MOST 1048576: true; the input reads as it did. -/
def fnExactThinJoinUptoRow : OpenClaim := { program := "ytjepmnngphlgoaa", sum := "b6216304f20ccf11b5c77d1731e9e976ca5b85ae8ecbfbab323b7333db44181b", func := "loop.example/reliefmaps/laws.FnExactThinJoin", spec := "fnExactThinJoin", unfollowed := true, recurses := true, apart := false, narrowed := true }
def FnExactThinJoinUptoSaid : Prop := fnExactThinJoinUptoRow.holds Try.pinned (OpenSpec.upto fnExactThinJoinSpec)

end Rows
end Go.Proofs.Ytjepmnngphlgoaa
