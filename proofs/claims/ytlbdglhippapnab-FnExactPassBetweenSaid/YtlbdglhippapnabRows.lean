/-
  No cell of these rows narrows 'for every input' (looked for: loops, veiled, ifaces, maps, wideKeys, modest, calm, conditions, laid).
  DERIVED. THE GIVEN ROWS OF THIS SEAT. 8 by the template 'for every input the law returns true; each argument reads behind the call as it read before'; 0 by the template 'total and deterministic' (their statements: YtlbdglhippapnabTotals.lean).
  GIVEN WITH THE SEED: the statements are not yours to turn. If you find one false, say at which input.
  Laid BY PROGRAM, IN A SANDBOX (cutbox-rows.mjs): the forced cells as the released guide's own fill.sh prints them over the translation 3acbd823d99affa8… (all of the seat's roots in one cut). By AI agents, Wed Nov 11 2026. No macro, syntax, notation, axiom, sorry.
-/
import Derived.Test.YtlbdglhippapnabChecked
import GoSem.Claim
import GoSem.ClaimJoined
import GoSem.ClaimMapViews
import Derived.JoinedTies
import Derived.KernelRfl
namespace Go.Proofs.Ytlbdglhippapnab
/- THE CELL 'sum', in the pinned program and in every row, IS THE sha256 OF THE DUMP (.gsa) THAT YtlbdglhippapnabProg.lean LOADS. Nothing in Lean hashes anything: it is a label: what it is worth is what the hold of that sum in a sandbox is worth. -/
noncomputable def Try.pinned : Pinned := { name := "ytlbdglhippapnab", sum := "3acbd823d99affa88117f8f0a4c05696fba28fa57c77718e6c4951f841f6a18d", checked := Try.checked }
namespace Rows
def none {H : Type} : Left H := { results := [], args := [] }

/-- 'laws.FnExactPeakList': WHATEVER THE INPUT: true; the input reads as it did. -/
def fnExactPeakListSpec : ChangeSpec := { name := "fnExactPeakList", fn := fun _ => fun
  | [d] => { results := [.lit (.bool true)], args := [d] }
  | _ => none }
def fnExactPeakListRow : OpenClaim := { program := "ytlbdglhippapnab", sum := "3acbd823d99affa88117f8f0a4c05696fba28fa57c77718e6c4951f841f6a18d", func := "loop.example/reliefmaps/laws.FnExactPeakList", spec := "fnExactPeakList", unfollowed := true, recurses := true, apart := false }
def FnExactPeakListSaid : Prop := fnExactPeakListRow.holds Try.pinned (OpenSpec.ofChange fnExactPeakListSpec)

/-- ITS FALSE NEIGHBOUR: 'it returns false'. Refute it at one input. -/
def fnExactPeakListWrong : ChangeSpec := { name := "fnExactPeakList", fn := fun _ => fun
  | [d] => { results := [.lit (.bool false)], args := [d] }
  | _ => none }
def FnExactPeakListWrongFalsely : Prop := fnExactPeakListRow.holds Try.pinned (OpenSpec.ofChange fnExactPeakListWrong)

/-- 'laws.FnExactPitList': WHATEVER THE INPUT: true; the input reads as it did. -/
def fnExactPitListSpec : ChangeSpec := { name := "fnExactPitList", fn := fun _ => fun
  | [d] => { results := [.lit (.bool true)], args := [d] }
  | _ => none }
def fnExactPitListRow : OpenClaim := { program := "ytlbdglhippapnab", sum := "3acbd823d99affa88117f8f0a4c05696fba28fa57c77718e6c4951f841f6a18d", func := "loop.example/reliefmaps/laws.FnExactPitList", spec := "fnExactPitList", unfollowed := true, recurses := true, apart := false }
def FnExactPitListSaid : Prop := fnExactPitListRow.holds Try.pinned (OpenSpec.ofChange fnExactPitListSpec)

/-- ITS FALSE NEIGHBOUR: 'it returns false'. Refute it at one input. -/
def fnExactPitListWrong : ChangeSpec := { name := "fnExactPitList", fn := fun _ => fun
  | [d] => { results := [.lit (.bool false)], args := [d] }
  | _ => none }
def FnExactPitListWrongFalsely : Prop := fnExactPitListRow.holds Try.pinned (OpenSpec.ofChange fnExactPitListWrong)

/-- 'laws.FnExactPassBetween': WHATEVER THE INPUT: true; the input reads as it did. -/
def fnExactPassBetweenSpec : ChangeSpec := { name := "fnExactPassBetween", fn := fun _ => fun
  | [d1, d2, d3] => { results := [.lit (.bool true)], args := [d1, d2, d3] }
  | _ => none }
def fnExactPassBetweenRow : OpenClaim := { program := "ytlbdglhippapnab", sum := "3acbd823d99affa88117f8f0a4c05696fba28fa57c77718e6c4951f841f6a18d", func := "loop.example/reliefmaps/laws.FnExactPassBetween", spec := "fnExactPassBetween", unfollowed := true, recurses := true, apart := false }
def FnExactPassBetweenSaid : Prop := fnExactPassBetweenRow.holds Try.pinned (OpenSpec.ofChange fnExactPassBetweenSpec)

/-- ITS FALSE NEIGHBOUR: 'it returns false'. Refute it at one input. -/
def fnExactPassBetweenWrong : ChangeSpec := { name := "fnExactPassBetween", fn := fun _ => fun
  | [d1, d2, d3] => { results := [.lit (.bool false)], args := [d1, d2, d3] }
  | _ => none }
def FnExactPassBetweenWrongFalsely : Prop := fnExactPassBetweenRow.holds Try.pinned (OpenSpec.ofChange fnExactPassBetweenWrong)

/-- 'laws.FnExactPeakKey': WHATEVER THE INPUT: true; the input reads as it did. -/
def fnExactPeakKeySpec : ChangeSpec := { name := "fnExactPeakKey", fn := fun _ => fun
  | [d1, d2] => { results := [.lit (.bool true)], args := [d1, d2] }
  | _ => none }
def fnExactPeakKeyRow : OpenClaim := { program := "ytlbdglhippapnab", sum := "3acbd823d99affa88117f8f0a4c05696fba28fa57c77718e6c4951f841f6a18d", func := "loop.example/reliefmaps/laws.FnExactPeakKey", spec := "fnExactPeakKey", unfollowed := true, recurses := true, apart := false }
def FnExactPeakKeySaid : Prop := fnExactPeakKeyRow.holds Try.pinned (OpenSpec.ofChange fnExactPeakKeySpec)

/-- ITS FALSE NEIGHBOUR: 'it returns false'. Refute it at one input. -/
def fnExactPeakKeyWrong : ChangeSpec := { name := "fnExactPeakKey", fn := fun _ => fun
  | [d1, d2] => { results := [.lit (.bool false)], args := [d1, d2] }
  | _ => none }
def FnExactPeakKeyWrongFalsely : Prop := fnExactPeakKeyRow.holds Try.pinned (OpenSpec.ofChange fnExactPeakKeyWrong)

/-- 'laws.FnExactPeakProminence': WHATEVER THE INPUT: true; the input reads as it did. -/
def fnExactPeakProminenceSpec : ChangeSpec := { name := "fnExactPeakProminence", fn := fun _ => fun
  | [d1, d2] => { results := [.lit (.bool true)], args := [d1, d2] }
  | _ => none }
def fnExactPeakProminenceRow : OpenClaim := { program := "ytlbdglhippapnab", sum := "3acbd823d99affa88117f8f0a4c05696fba28fa57c77718e6c4951f841f6a18d", func := "loop.example/reliefmaps/laws.FnExactPeakProminence", spec := "fnExactPeakProminence", unfollowed := true, recurses := true, apart := false }
def FnExactPeakProminenceSaid : Prop := fnExactPeakProminenceRow.holds Try.pinned (OpenSpec.ofChange fnExactPeakProminenceSpec)

/-- ITS FALSE NEIGHBOUR: 'it returns false'. Refute it at one input. -/
def fnExactPeakProminenceWrong : ChangeSpec := { name := "fnExactPeakProminence", fn := fun _ => fun
  | [d1, d2] => { results := [.lit (.bool false)], args := [d1, d2] }
  | _ => none }
def FnExactPeakProminenceWrongFalsely : Prop := fnExactPeakProminenceRow.holds Try.pinned (OpenSpec.ofChange fnExactPeakProminenceWrong)

/-- 'laws.FnExactPeakParent': WHATEVER THE INPUT: true; the input reads as it did. -/
def fnExactPeakParentSpec : ChangeSpec := { name := "fnExactPeakParent", fn := fun _ => fun
  | [d1, d2] => { results := [.lit (.bool true)], args := [d1, d2] }
  | _ => none }
def fnExactPeakParentRow : OpenClaim := { program := "ytlbdglhippapnab", sum := "3acbd823d99affa88117f8f0a4c05696fba28fa57c77718e6c4951f841f6a18d", func := "loop.example/reliefmaps/laws.FnExactPeakParent", spec := "fnExactPeakParent", unfollowed := true, recurses := true, apart := false }
def FnExactPeakParentSaid : Prop := fnExactPeakParentRow.holds Try.pinned (OpenSpec.ofChange fnExactPeakParentSpec)

/-- ITS FALSE NEIGHBOUR: 'it returns false'. Refute it at one input. -/
def fnExactPeakParentWrong : ChangeSpec := { name := "fnExactPeakParent", fn := fun _ => fun
  | [d1, d2] => { results := [.lit (.bool false)], args := [d1, d2] }
  | _ => none }
def FnExactPeakParentWrongFalsely : Prop := fnExactPeakParentRow.holds Try.pinned (OpenSpec.ofChange fnExactPeakParentWrong)

/-- 'laws.FnExactPeakMost': WHATEVER THE INPUT: true; the input reads as it did. -/
def fnExactPeakMostSpec : ChangeSpec := { name := "fnExactPeakMost", fn := fun _ => fun
  | [d1, d2] => { results := [.lit (.bool true)], args := [d1, d2] }
  | _ => none }
def fnExactPeakMostRow : OpenClaim := { program := "ytlbdglhippapnab", sum := "3acbd823d99affa88117f8f0a4c05696fba28fa57c77718e6c4951f841f6a18d", func := "loop.example/reliefmaps/laws.FnExactPeakMost", spec := "fnExactPeakMost", unfollowed := true, recurses := true, apart := false }
def FnExactPeakMostSaid : Prop := fnExactPeakMostRow.holds Try.pinned (OpenSpec.ofChange fnExactPeakMostSpec)

/-- ITS FALSE NEIGHBOUR: 'it returns false'. Refute it at one input. -/
def fnExactPeakMostWrong : ChangeSpec := { name := "fnExactPeakMost", fn := fun _ => fun
  | [d1, d2] => { results := [.lit (.bool false)], args := [d1, d2] }
  | _ => none }
def FnExactPeakMostWrongFalsely : Prop := fnExactPeakMostRow.holds Try.pinned (OpenSpec.ofChange fnExactPeakMostWrong)

/-- 'laws.FnExactPeakSum': WHATEVER THE INPUT: true; the input reads as it did. -/
def fnExactPeakSumSpec : ChangeSpec := { name := "fnExactPeakSum", fn := fun _ => fun
  | [d] => { results := [.lit (.bool true)], args := [d] }
  | _ => none }
def fnExactPeakSumRow : OpenClaim := { program := "ytlbdglhippapnab", sum := "3acbd823d99affa88117f8f0a4c05696fba28fa57c77718e6c4951f841f6a18d", func := "loop.example/reliefmaps/laws.FnExactPeakSum", spec := "fnExactPeakSum", unfollowed := true, recurses := true, apart := false }
def FnExactPeakSumSaid : Prop := fnExactPeakSumRow.holds Try.pinned (OpenSpec.ofChange fnExactPeakSumSpec)

/-- ITS FALSE NEIGHBOUR: 'it returns false'. Refute it at one input. -/
def fnExactPeakSumWrong : ChangeSpec := { name := "fnExactPeakSum", fn := fun _ => fun
  | [d] => { results := [.lit (.bool false)], args := [d] }
  | _ => none }
def FnExactPeakSumWrongFalsely : Prop := fnExactPeakSumRow.holds Try.pinned (OpenSpec.ofChange fnExactPeakSumWrong)

/- THE SECOND FORM. 'bulk': how many values and letters a reading holds, each counted each time it is reached (what is shared counts as often as it is met; a slice's spare places count too). A statement '..UptoSaid' is the law's where the arguments, and the package variables that the reading takes, are together of bulk at most 1048576: NARROWER than '..Said'. Prove '..Said' where nothing that the law and all that it calls make is longer than what came in: it says more and counts as full. Else prove '..UptoSaid'. A law counts once. -/
mutual
def uptoBulk {H : Type} : DataW H → Nat
  | .lit (.string bytes) => bytes.length + 1
  | .lit _ => 1
  | .nil => 1
  | .ptr d => uptoBulk d + 1
  | .slice elems spare => uptoBulkAll elems + uptoBulkAll spare + 1
  | .agg parts => uptoBulkAll parts + 1
  | .iface _ d => uptoBulk d + 1
  | .map entries => uptoBulkEntries entries + 1
  | .held _ => 1
def uptoBulkAll {H : Type} : List (DataW H) → Nat
  | [] => 0
  | d :: r => uptoBulk d + uptoBulkAll r
def uptoBulkEntries {H : Type} : List (Lit × DataW H) → Nat
  | [] => 0
  | x :: r => uptoBulkEntry x + uptoBulkEntries r
def uptoBulkEntry {H : Type} : Lit × DataW H → Nat
  | (.string bytes, d) => bytes.length + uptoBulk d + 1
  | (_, d) => uptoBulk d + 1
 end
def uptoSmall : (H : Type) → List (DataW H) → Bool := fun _ ds => decide (uptoBulkAll ds ≤ 1048576)
def OpenSpec.upto (s : _root_.Go.ChangeSpec) : _root_.Go.OpenSpec := { _root_.Go.OpenSpec.ofChange s with cond := some uptoSmall }

/-- 'laws.FnExactPeakList', WHERE WHAT IT READS IS OF BULK AT MOST 1048576: true; the input reads as it did. -/
def fnExactPeakListUptoRow : OpenClaim := { program := "ytlbdglhippapnab", sum := "3acbd823d99affa88117f8f0a4c05696fba28fa57c77718e6c4951f841f6a18d", func := "loop.example/reliefmaps/laws.FnExactPeakList", spec := "fnExactPeakList", unfollowed := true, recurses := true, apart := false, narrowed := true }
def FnExactPeakListUptoSaid : Prop := fnExactPeakListUptoRow.holds Try.pinned (OpenSpec.upto fnExactPeakListSpec)

/-- 'laws.FnExactPitList', WHERE WHAT IT READS IS OF BULK AT MOST 1048576: true; the input reads as it did. -/
def fnExactPitListUptoRow : OpenClaim := { program := "ytlbdglhippapnab", sum := "3acbd823d99affa88117f8f0a4c05696fba28fa57c77718e6c4951f841f6a18d", func := "loop.example/reliefmaps/laws.FnExactPitList", spec := "fnExactPitList", unfollowed := true, recurses := true, apart := false, narrowed := true }
def FnExactPitListUptoSaid : Prop := fnExactPitListUptoRow.holds Try.pinned (OpenSpec.upto fnExactPitListSpec)

/-- 'laws.FnExactPassBetween', WHERE WHAT IT READS IS OF BULK AT MOST 1048576: true; the input reads as it did. -/
def fnExactPassBetweenUptoRow : OpenClaim := { program := "ytlbdglhippapnab", sum := "3acbd823d99affa88117f8f0a4c05696fba28fa57c77718e6c4951f841f6a18d", func := "loop.example/reliefmaps/laws.FnExactPassBetween", spec := "fnExactPassBetween", unfollowed := true, recurses := true, apart := false, narrowed := true }
def FnExactPassBetweenUptoSaid : Prop := fnExactPassBetweenUptoRow.holds Try.pinned (OpenSpec.upto fnExactPassBetweenSpec)

/-- 'laws.FnExactPeakKey', WHERE WHAT IT READS IS OF BULK AT MOST 1048576: true; the input reads as it did. -/
def fnExactPeakKeyUptoRow : OpenClaim := { program := "ytlbdglhippapnab", sum := "3acbd823d99affa88117f8f0a4c05696fba28fa57c77718e6c4951f841f6a18d", func := "loop.example/reliefmaps/laws.FnExactPeakKey", spec := "fnExactPeakKey", unfollowed := true, recurses := true, apart := false, narrowed := true }
def FnExactPeakKeyUptoSaid : Prop := fnExactPeakKeyUptoRow.holds Try.pinned (OpenSpec.upto fnExactPeakKeySpec)

/-- 'laws.FnExactPeakProminence', WHERE WHAT IT READS IS OF BULK AT MOST 1048576: true; the input reads as it did. -/
def fnExactPeakProminenceUptoRow : OpenClaim := { program := "ytlbdglhippapnab", sum := "3acbd823d99affa88117f8f0a4c05696fba28fa57c77718e6c4951f841f6a18d", func := "loop.example/reliefmaps/laws.FnExactPeakProminence", spec := "fnExactPeakProminence", unfollowed := true, recurses := true, apart := false, narrowed := true }
def FnExactPeakProminenceUptoSaid : Prop := fnExactPeakProminenceUptoRow.holds Try.pinned (OpenSpec.upto fnExactPeakProminenceSpec)

/-- 'laws.FnExactPeakParent', WHERE WHAT IT READS IS OF BULK AT MOST 1048576: true; the input reads as it did. -/
def fnExactPeakParentUptoRow : OpenClaim := { program := "ytlbdglhippapnab", sum := "3acbd823d99affa88117f8f0a4c05696fba28fa57c77718e6c4951f841f6a18d", func := "loop.example/reliefmaps/laws.FnExactPeakParent", spec := "fnExactPeakParent", unfollowed := true, recurses := true, apart := false, narrowed := true }
def FnExactPeakParentUptoSaid : Prop := fnExactPeakParentUptoRow.holds Try.pinned (OpenSpec.upto fnExactPeakParentSpec)

/-- 'laws.FnExactPeakMost', WHERE WHAT IT READS IS OF BULK AT MOST 1048576: true; the input reads as it did. -/
def fnExactPeakMostUptoRow : OpenClaim := { program := "ytlbdglhippapnab", sum := "3acbd823d99affa88117f8f0a4c05696fba28fa57c77718e6c4951f841f6a18d", func := "loop.example/reliefmaps/laws.FnExactPeakMost", spec := "fnExactPeakMost", unfollowed := true, recurses := true, apart := false, narrowed := true }
def FnExactPeakMostUptoSaid : Prop := fnExactPeakMostUptoRow.holds Try.pinned (OpenSpec.upto fnExactPeakMostSpec)

/-- 'laws.FnExactPeakSum', WHERE WHAT IT READS IS OF BULK AT MOST 1048576: true; the input reads as it did. -/
def fnExactPeakSumUptoRow : OpenClaim := { program := "ytlbdglhippapnab", sum := "3acbd823d99affa88117f8f0a4c05696fba28fa57c77718e6c4951f841f6a18d", func := "loop.example/reliefmaps/laws.FnExactPeakSum", spec := "fnExactPeakSum", unfollowed := true, recurses := true, apart := false, narrowed := true }
def FnExactPeakSumUptoSaid : Prop := fnExactPeakSumUptoRow.holds Try.pinned (OpenSpec.upto fnExactPeakSumSpec)

end Rows
end Go.Proofs.Ytlbdglhippapnab
