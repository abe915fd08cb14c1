/-
  No cell of these rows narrows 'for every input' (looked for: loops, veiled, ifaces, maps, wideKeys, modest, calm, conditions, laid).
  DERIVED. THE GIVEN ROWS OF THIS SEAT. 8 by the template 'for every input the law returns true; each argument reads behind the call as it read before'; 0 by the template 'total and deterministic' (their statements: YtplfphpnpjjinabTotals.lean).
  GIVEN WITH THE SEED: the statements are not yours to turn. If you find one false, say at which input.
  Laid BY PROGRAM, IN A SANDBOX (cutbox-rows.mjs): the forced cells as the released guide's own fill.sh prints them over the translation ee676500b04ace19… (all of the seat's roots in one cut). By AI agents, Wed Nov 11 2026. No macro, syntax, notation, axiom, sorry.
-/
import Derived.Test.YtplfphpnpjjinabChecked
import GoSem.Claim
import GoSem.ClaimJoined
import GoSem.ClaimMapViews
import Derived.JoinedTies
import Derived.KernelRfl
namespace Go.Proofs.Ytplfphpnpjjinab
/- THE CELL 'sum', in the pinned program and in every row, IS THE sha256 OF THE DUMP (.gsa) THAT YtplfphpnpjjinabProg.lean LOADS. Nothing in Lean hashes anything: it is a label: what it is worth is what the hold of that sum in a sandbox is worth. -/
noncomputable def Try.pinned : Pinned := { name := "ytplfphpnpjjinab", sum := "ee676500b04ace194aa09f9b12478ac613f66e26cb7d34198cf9a72f4fcc4330", checked := Try.checked }
namespace Rows
def none {H : Type} : Left H := { results := [], args := [] }

/-- 'laws.FnExactPeakIs': WHATEVER THE INPUT: true; the input reads as it did. -/
def fnExactPeakIsSpec : ChangeSpec := { name := "fnExactPeakIs", fn := fun _ => fun
  | [d1, d2] => { results := [.lit (.bool true)], args := [d1, d2] }
  | _ => none }
def fnExactPeakIsRow : OpenClaim := { program := "ytplfphpnpjjinab", sum := "ee676500b04ace194aa09f9b12478ac613f66e26cb7d34198cf9a72f4fcc4330", func := "loop.example/reliefmaps/laws.FnExactPeakIs", spec := "fnExactPeakIs", unfollowed := true, recurses := true, apart := false }
def FnExactPeakIsSaid : Prop := fnExactPeakIsRow.holds Try.pinned (OpenSpec.ofChange fnExactPeakIsSpec)

/-- ITS FALSE NEIGHBOUR: 'it returns false'. Refute it at one input. -/
def fnExactPeakIsWrong : ChangeSpec := { name := "fnExactPeakIs", fn := fun _ => fun
  | [d1, d2] => { results := [.lit (.bool false)], args := [d1, d2] }
  | _ => none }
def FnExactPeakIsWrongFalsely : Prop := fnExactPeakIsRow.holds Try.pinned (OpenSpec.ofChange fnExactPeakIsWrong)

/-- 'laws.FnExactPeakList': WHATEVER THE INPUT: true; the input reads as it did. -/
def fnExactPeakListSpec : ChangeSpec := { name := "fnExactPeakList", fn := fun _ => fun
  | [d] => { results := [.lit (.bool true)], args := [d] }
  | _ => none }
def fnExactPeakListRow : OpenClaim := { program := "ytplfphpnpjjinab", sum := "ee676500b04ace194aa09f9b12478ac613f66e26cb7d34198cf9a72f4fcc4330", func := "loop.example/reliefmaps/laws.FnExactPeakList", spec := "fnExactPeakList", unfollowed := true, recurses := true, apart := false }
def FnExactPeakListSaid : Prop := fnExactPeakListRow.holds Try.pinned (OpenSpec.ofChange fnExactPeakListSpec)

/-- ITS FALSE NEIGHBOUR: 'it returns false'. Refute it at one input. -/
def fnExactPeakListWrong : ChangeSpec := { name := "fnExactPeakList", fn := fun _ => fun
  | [d] => { results := [.lit (.bool false)], args := [d] }
  | _ => none }
def FnExactPeakListWrongFalsely : Prop := fnExactPeakListRow.holds Try.pinned (OpenSpec.ofChange fnExactPeakListWrong)

/-- 'laws.FnExactPitList': WHATEVER THE INPUT: true; the input reads as it did. -/
def fnExactPitListSpec : ChangeSpec := { name := "fnExactPitList", fn := fun _ => fun
  | [d] => { results := [.lit (.bool true)], args := [d] }
  | _ => none }
def fnExactPitListRow : OpenClaim := { program := "ytplfphpnpjjinab", sum := "ee676500b04ace194aa09f9b12478ac613f66e26cb7d34198cf9a72f4fcc4330", func := "loop.example/reliefmaps/laws.FnExactPitList", spec := "fnExactPitList", unfollowed := true, recurses := true, apart := false }
def FnExactPitListSaid : Prop := fnExactPitListRow.holds Try.pinned (OpenSpec.ofChange fnExactPitListSpec)

/-- ITS FALSE NEIGHBOUR: 'it returns false'. Refute it at one input. -/
def fnExactPitListWrong : ChangeSpec := { name := "fnExactPitList", fn := fun _ => fun
  | [d] => { results := [.lit (.bool false)], args := [d] }
  | _ => none }
def FnExactPitListWrongFalsely : Prop := fnExactPitListRow.holds Try.pinned (OpenSpec.ofChange fnExactPitListWrong)

/-- 'laws.FnExactPeakIsland': WHATEVER THE INPUT: true; the input reads as it did. -/
def fnExactPeakIslandSpec : ChangeSpec := { name := "fnExactPeakIsland", fn := fun _ => fun
  | [d1, d2, d3] => { results := [.lit (.bool true)], args := [d1, d2, d3] }
  | _ => none }
def fnExactPeakIslandRow : OpenClaim := { program := "ytplfphpnpjjinab", sum := "ee676500b04ace194aa09f9b12478ac613f66e26cb7d34198cf9a72f4fcc4330", func := "loop.example/reliefmaps/laws.FnExactPeakIsland", spec := "fnExactPeakIsland", unfollowed := true, recurses := true, apart := false }
def FnExactPeakIslandSaid : Prop := fnExactPeakIslandRow.holds Try.pinned (OpenSpec.ofChange fnExactPeakIslandSpec)

/-- ITS FALSE NEIGHBOUR: 'it returns false'. Refute it at one input. -/
def fnExactPeakIslandWrong : ChangeSpec := { name := "fnExactPeakIsland", fn := fun _ => fun
  | [d1, d2, d3] => { results := [.lit (.bool false)], args := [d1, d2, d3] }
  | _ => none }
def FnExactPeakIslandWrongFalsely : Prop := fnExactPeakIslandRow.holds Try.pinned (OpenSpec.ofChange fnExactPeakIslandWrong)

/-- 'laws.FnPeak': WHATEVER THE INPUT: true; the input reads as it did. -/
def fnPeakSpec : ChangeSpec := { name := "fnPeak", fn := fun _ => fun
  | [d] => { results := [.lit (.bool true)], args := [d] }
  | _ => none }
def fnPeakRow : OpenClaim := { program := "ytplfphpnpjjinab", sum := "ee676500b04ace194aa09f9b12478ac613f66e26cb7d34198cf9a72f4fcc4330", func := "loop.example/reliefmaps/laws.FnPeak", spec := "fnPeak", unfollowed := true, recurses := true, apart := false }
def FnPeakSaid : Prop := fnPeakRow.holds Try.pinned (OpenSpec.ofChange fnPeakSpec)

/-- ITS FALSE NEIGHBOUR: 'it returns false'. Refute it at one input. -/
def fnPeakWrong : ChangeSpec := { name := "fnPeak", fn := fun _ => fun
  | [d] => { results := [.lit (.bool false)], args := [d] }
  | _ => none }
def FnPeakWrongFalsely : Prop := fnPeakRow.holds Try.pinned (OpenSpec.ofChange fnPeakWrong)

/-- 'laws.FnPits': WHATEVER THE INPUT: true; the input reads as it did. -/
def fnPitsSpec : ChangeSpec := { name := "fnPits", fn := fun _ => fun
  | [d] => { results := [.lit (.bool true)], args := [d] }
  | _ => none }
def fnPitsRow : OpenClaim := { program := "ytplfphpnpjjinab", sum := "ee676500b04ace194aa09f9b12478ac613f66e26cb7d34198cf9a72f4fcc4330", func := "loop.example/reliefmaps/laws.FnPits", spec := "fnPits", unfollowed := true, recurses := true, apart := false }
def FnPitsSaid : Prop := fnPitsRow.holds Try.pinned (OpenSpec.ofChange fnPitsSpec)

/-- ITS FALSE NEIGHBOUR: 'it returns false'. Refute it at one input. -/
def fnPitsWrong : ChangeSpec := { name := "fnPits", fn := fun _ => fun
  | [d] => { results := [.lit (.bool false)], args := [d] }
  | _ => none }
def FnPitsWrongFalsely : Prop := fnPitsRow.holds Try.pinned (OpenSpec.ofChange fnPitsWrong)

/-- 'laws.FnPeakList': WHATEVER THE INPUT: true; the input reads as it did. -/
def fnPeakListSpec : ChangeSpec := { name := "fnPeakList", fn := fun _ => fun
  | [d] => { results := [.lit (.bool true)], args := [d] }
  | _ => none }
def fnPeakListRow : OpenClaim := { program := "ytplfphpnpjjinab", sum := "ee676500b04ace194aa09f9b12478ac613f66e26cb7d34198cf9a72f4fcc4330", func := "loop.example/reliefmaps/laws.FnPeakList", spec := "fnPeakList", unfollowed := true, recurses := true, apart := false }
def FnPeakListSaid : Prop := fnPeakListRow.holds Try.pinned (OpenSpec.ofChange fnPeakListSpec)

/-- ITS FALSE NEIGHBOUR: 'it returns false'. Refute it at one input. -/
def fnPeakListWrong : ChangeSpec := { name := "fnPeakList", fn := fun _ => fun
  | [d] => { results := [.lit (.bool false)], args := [d] }
  | _ => none }
def FnPeakListWrongFalsely : Prop := fnPeakListRow.holds Try.pinned (OpenSpec.ofChange fnPeakListWrong)

/-- 'laws.FnIsland': WHATEVER THE INPUT: true; the input reads as it did. -/
def fnIslandSpec : ChangeSpec := { name := "fnIsland", fn := fun _ => fun
  | [d] => { results := [.lit (.bool true)], args := [d] }
  | _ => none }
def fnIslandRow : OpenClaim := { program := "ytplfphpnpjjinab", sum := "ee676500b04ace194aa09f9b12478ac613f66e26cb7d34198cf9a72f4fcc4330", func := "loop.example/reliefmaps/laws.FnIsland", spec := "fnIsland", unfollowed := true, recurses := true, apart := false }
def FnIslandSaid : Prop := fnIslandRow.holds Try.pinned (OpenSpec.ofChange fnIslandSpec)

/-- ITS FALSE NEIGHBOUR: 'it returns false'. Refute it at one input. -/
def fnIslandWrong : ChangeSpec := { name := "fnIsland", fn := fun _ => fun
  | [d] => { results := [.lit (.bool false)], args := [d] }
  | _ => none }
def FnIslandWrongFalsely : Prop := fnIslandRow.holds Try.pinned (OpenSpec.ofChange fnIslandWrong)

/- THE SECOND FORM. 'bulk': how many values and letters a reading holds, each counted each time it is reached (what is shared counts as often as it is met; a slice's spare places count too). A statement '..UptoSaid' is the law's where the arguments, and the package variables that the reading takes, are together of bulk at most 1048576: NARROWER than '..Said'. Prove '..Said' where nothing that the law and all that it calls make is longer than what came in: it says more and counts as full. Else prove '..UptoSaid'. A law counts once. -/
mutual
def uptoBulk {H : Type} : DataW H → Nat
  | .lit (.string bytes) => bytes.length + 1
  | .lit _ => 1
  | .nil => 1
  | .ptr d => uptoBulk d + 1
  | .slice elems spare => uptoBulkAll elems + uptoBulkAll spare + 1
  | .agg parts => uptoBulkAll parts + 1
  | .iface _ d => uptoBulk d + 1
  | .map entries => uptoBulkEntries entries + 1
  | .held _ => 1
def uptoBulkAll {H : Type} : List (DataW H) → Nat
  | [] => 0
  | d :: r => uptoBulk d + uptoBulkAll r
def uptoBulkEntries {H : Type} : List (Lit × DataW H) → Nat
  | [] => 0
  | x :: r => uptoBulkEntry x + uptoBulkEntries r
def uptoBulkEntry {H : Type} : Lit × DataW H → Nat
  | (.string bytes, d) => bytes.length + uptoBulk d + 1
  | (_, d) => uptoBulk d + 1
 end
def uptoSmall : (H : Type) → List (DataW H) → Bool := fun _ ds => decide (uptoBulkAll ds ≤ 1048576)
def OpenSpec.upto (s : _root_.Go.ChangeSpec) : _root_.Go.OpenSpec := { _root_.Go.OpenSpec.ofChange s with cond := some uptoSmall }

/-- 'laws.FnExactPeakIs', WHERE WHAT IT READS IS OF BULK AT MOST 1048576: true; the input reads as it did. -/
def fnExactPeakIsUptoRow : OpenClaim := { program := "ytplfphpnpjjinab", sum := "ee676500b04ace194aa09f9b12478ac613f66e26cb7d34198cf9a72f4fcc4330", func := "loop.example/reliefmaps/laws.FnExactPeakIs", spec := "fnExactPeakIs", unfollowed := true, recurses := true, apart := false, narrowed := true }
def FnExactPeakIsUptoSaid : Prop := fnExactPeakIsUptoRow.holds Try.pinned (OpenSpec.upto fnExactPeakIsSpec)

/-- 'laws.FnExactPeakList', WHERE WHAT IT READS IS OF BULK AT MOST 1048576: true; the input reads as it did. -/
def fnExactPeakListUptoRow : OpenClaim := { program := "ytplfphpnpjjinab", sum := "ee676500b04ace194aa09f9b12478ac613f66e26cb7d34198cf9a72f4fcc4330", func := "loop.example/reliefmaps/laws.FnExactPeakList", spec := "fnExactPeakList", unfollowed := true, recurses := true, apart := false, narrowed := true }
def FnExactPeakListUptoSaid : Prop := fnExactPeakListUptoRow.holds Try.pinned (OpenSpec.upto fnExactPeakListSpec)

/-- 'laws.FnExactPitList', WHERE WHAT IT READS IS OF BULK AT MOST 1048576: true; the input reads as it did. -/
def fnExactPitListUptoRow : OpenClaim := { program := "ytplfphpnpjjinab", sum := "ee676500b04ace194aa09f9b12478ac613f66e26cb7d34198cf9a72f4fcc4330", func := "loop.example/reliefmaps/laws.FnExactPitList", spec := "fnExactPitList", unfollowed := true, recurses := true, apart := false, narrowed := true }
def FnExactPitListUptoSaid : Prop := fnExactPitListUptoRow.holds Try.pinned (OpenSpec.upto fnExactPitListSpec)

/-- 'laws.FnExactPeakIsland', WHERE WHAT IT READS IS OF BULK AT MOST 1048576: true; the input reads as it did. -/
def fnExactPeakIslandUptoRow : OpenClaim := { program := "ytplfphpnpjjinab", sum := "ee676500b04ace194aa09f9b12478ac613f66e26cb7d34198cf9a72f4fcc4330", func := "loop.example/reliefmaps/laws.FnExactPeakIsland", spec := "fnExactPeakIsland", unfollowed := true, recurses := true, apart := false, narrowed := true }
def FnExactPeakIslandUptoSaid : Prop := fnExactPeakIslandUptoRow.holds Try.pinned (OpenSpec.upto fnExactPeakIslandSpec)

/-- 'laws.FnPeak', WHERE WHAT IT READS IS OF BULK AT MOST 1048576: true; the input reads as it did. -/
def fnPeakUptoRow : OpenClaim := { program := "ytplfphpnpjjinab", sum := "ee676500b04ace194aa09f9b12478ac613f66e26cb7d34198cf9a72f4fcc4330", func := "loop.example/reliefmaps/laws.FnPeak", spec := "fnPeak", unfollowed := true, recurses := true, apart := false, narrowed := true }
def FnPeakUptoSaid : Prop := fnPeakUptoRow.holds Try.pinned (OpenSpec.upto fnPeakSpec)

/-- 'laws.FnPits', WHERE WHAT IT READS IS OF BULK AT MOST 1048576: true; the input reads as it did. -/
def fnPitsUptoRow : OpenClaim := { program := "ytplfphpnpjjinab", sum := "ee676500b04ace194aa09f9b12478ac613f66e26cb7d34198cf9a72f4fcc4330", func := "loop.example/reliefmaps/laws.FnPits", spec := "fnPits", unfollowed := true, recurses := true, apart := false, narrowed := true }
def FnPitsUptoSaid : Prop := fnPitsUptoRow.holds Try.pinned (OpenSpec.upto fnPitsSpec)

/-- 'laws.FnPeakList', WHERE WHAT IT READS IS OF BULK AT MOST 1048576: true; the input reads as it did. -/
def fnPeakListUptoRow : OpenClaim := { program := "ytplfphpnpjjinab", sum := "ee676500b04ace194aa09f9b12478ac613f66e26cb7d34198cf9a72f4fcc4330", func := "loop.example/reliefmaps/laws.FnPeakList", spec := "fnPeakList", unfollowed := true, recurses := true, apart := false, narrowed := true }
def FnPeakListUptoSaid : Prop := fnPeakListUptoRow.holds Try.pinned (OpenSpec.upto fnPeakListSpec)

/-- 'laws.FnIsland', WHERE WHAT IT READS IS OF BULK AT MOST 1048576: true; the input reads as it did. -/
def fnIslandUptoRow : OpenClaim := { program := "ytplfphpnpjjinab", sum := "ee676500b04ace194aa09f9b12478ac613f66e26cb7d34198cf9a72f4fcc4330", func := "loop.example/reliefmaps/laws.FnIsland", spec := "fnIsland", unfollowed := true, recurses := true, apart := false, narrowed := true }
def FnIslandUptoSaid : Prop := fnIslandUptoRow.holds Try.pinned (OpenSpec.upto fnIslandSpec)

end Rows
end Go.Proofs.Ytplfphpnpjjinab
