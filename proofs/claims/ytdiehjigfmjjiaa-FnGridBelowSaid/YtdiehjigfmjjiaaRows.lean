/-
  No cell of these rows narrows 'for every input' (looked for: loops, veiled, ifaces, maps, wideKeys, modest, calm, conditions, laid).
  DERIVED. THE GIVEN ROWS OF THIS SEAT. 3 by the template 'for every input the law returns true; each argument reads behind the call as it read before'; 0 by the template 'total and deterministic' (their statements: YtdiehjigfmjjiaaTotals.lean).
  GIVEN WITH THE SEED: the statements are not yours to turn. If you find one false, say at which input.
  Laid BY PROGRAM, IN A SANDBOX (cutbox-rows.mjs): the forced cells as the released guide's own fill.sh prints them over the translation dd3a559fea93a4a7… (all of the seat's roots in one cut). By AI agents, Wed Nov 11 2026. No macro, syntax, notation, axiom, sorry.
-/
import Derived.Test.YtdiehjigfmjjiaaChecked
import GoSem.Claim
import GoSem.ClaimJoined
import GoSem.ClaimMapViews
import Derived.JoinedTies
import Derived.KernelRfl
namespace Go.Proofs.Ytdiehjigfmjjiaa
/- THE CELL 'sum', in the pinned program and in every row, IS THE sha256 OF THE DUMP (.gsa) THAT YtdiehjigfmjjiaaProg.lean LOADS. Nothing in Lean hashes anything: it is a label: what it is worth is what the hold of that sum in a sandbox is worth. -/
noncomputable def Try.pinned : Pinned := { name := "ytdiehjigfmjjiaa", sum := "dd3a559fea93a4a75b2c3596f40ac5637a91b969ad22ad65e3cd78c9cf458975", checked := Try.checked }
namespace Rows
def none {H : Type} : Left H := { results := [], args := [] }

/-- 'laws.FnGridBeside': WHATEVER THE INPUT: true; the input reads as it did. -/
def fnGridBesideSpec : ChangeSpec := { name := "fnGridBeside", fn := fun _ => fun
  | [d] => { results := [.lit (.bool true)], args := [d] }
  | _ => none }
def fnGridBesideRow : OpenClaim := { program := "ytdiehjigfmjjiaa", sum := "dd3a559fea93a4a75b2c3596f40ac5637a91b969ad22ad65e3cd78c9cf458975", func := "loop.example/reliefmaps/laws.FnGridBeside", spec := "fnGridBeside", unfollowed := true, recurses := true, apart := false }
def FnGridBesideSaid : Prop := fnGridBesideRow.holds Try.pinned (OpenSpec.ofChange fnGridBesideSpec)

/-- ITS FALSE NEIGHBOUR: 'it returns false'. Refute it at one input. -/
def fnGridBesideWrong : ChangeSpec := { name := "fnGridBeside", fn := fun _ => fun
  | [d] => { results := [.lit (.bool false)], args := [d] }
  | _ => none }
def FnGridBesideWrongFalsely : Prop := fnGridBesideRow.holds Try.pinned (OpenSpec.ofChange fnGridBesideWrong)

/-- 'laws.FnGridBelow': WHATEVER THE INPUT: true; the input reads as it did. -/
def fnGridBelowSpec : ChangeSpec := { name := "fnGridBelow", fn := fun _ => fun
  | [d] => { results := [.lit (.bool true)], args := [d] }
  | _ => none }
def fnGridBelowRow : OpenClaim := { program := "ytdiehjigfmjjiaa", sum := "dd3a559fea93a4a75b2c3596f40ac5637a91b969ad22ad65e3cd78c9cf458975", func := "loop.example/reliefmaps/laws.FnGridBelow", spec := "fnGridBelow", unfollowed := true, recurses := true, apart := false }
def FnGridBelowSaid : Prop := fnGridBelowRow.holds Try.pinned (OpenSpec.ofChange fnGridBelowSpec)

/-- ITS FALSE NEIGHBOUR: 'it returns false'. Refute it at one input. -/
def fnGridBelowWrong : ChangeSpec := { name := "fnGridBelow", fn := fun _ => fun
  | [d] => { results := [.lit (.bool false)], args := [d] }
  | _ => none }
def FnGridBelowWrongFalsely : Prop := fnGridBelowRow.holds Try.pinned (OpenSpec.ofChange fnGridBelowWrong)

/-- 'laws.FnGridPart': WHATEVER THE INPUT: true; the input reads as it did. -/
def fnGridPartSpec : ChangeSpec := { name := "fnGridPart", fn := fun _ => fun
  | [d] => { results := [.lit (.bool true)], args := [d] }
  | _ => none }
def fnGridPartRow : OpenClaim := { program := "ytdiehjigfmjjiaa", sum := "dd3a559fea93a4a75b2c3596f40ac5637a91b969ad22ad65e3cd78c9cf458975", func := "loop.example/reliefmaps/laws.FnGridPart", spec := "fnGridPart", unfollowed := true, recurses := true, apart := false }
def FnGridPartSaid : Prop := fnGridPartRow.holds Try.pinned (OpenSpec.ofChange fnGridPartSpec)

/-- ITS FALSE NEIGHBOUR: 'it returns false'. Refute it at one input. -/
def fnGridPartWrong : ChangeSpec := { name := "fnGridPart", fn := fun _ => fun
  | [d] => { results := [.lit (.bool false)], args := [d] }
  | _ => none }
def FnGridPartWrongFalsely : Prop := fnGridPartRow.holds Try.pinned (OpenSpec.ofChange fnGridPartWrong)

/- THE SECOND FORM. 'bulk': how many values and letters a reading holds, each counted each time it is reached (what is shared counts as often as it is met; a slice's spare places count too). A statement '..UptoSaid' is the law's where the arguments, and the package variables that the reading takes, are together of bulk at most 1048576: NARROWER than '..Said'. Prove '..Said' where nothing that the law and all that it calls make is longer than what came in: it says more and counts as full. Else prove '..UptoSaid'. A law counts once. -/
mutual
def uptoBulk {H : Type} : DataW H → Nat
  | .lit (.string bytes) => bytes.length + 1
  | .lit _ => 1
  | .nil => 1
  | .ptr d => uptoBulk d + 1
  | .slice elems spare => uptoBulkAll elems + uptoBulkAll spare + 1
  | .agg parts => uptoBulkAll parts + 1
  | .iface _ d => uptoBulk d + 1
  | .map entries => uptoBulkEntries entries + 1
  | .held _ => 1
def uptoBulkAll {H : Type} : List (DataW H) → Nat
  | [] => 0
  | d :: r => uptoBulk d + uptoBulkAll r
def uptoBulkEntries {H : Type} : List (Lit × DataW H) → Nat
  | [] => 0
  | x :: r => uptoBulkEntry x + uptoBulkEntries r
def uptoBulkEntry {H : Type} : Lit × DataW H → Nat
  | (.string bytes, d) => bytes.length + uptoBulk d + 1
  | (_, d) => uptoBulk d + 1
 end
def uptoSmall : (H : Type) → List (DataW H) → Bool := fun _ ds => decide (uptoBulkAll ds ≤ 1048576)
def OpenSpec.upto (s : _root_.Go.ChangeSpec) : _root_.Go.OpenSpec := { _root_.Go.OpenSpec.ofChange s with cond := some uptoSmall }

/-- 'laws.FnGridBeside', WHERE WHAT IT READS IS OF BULK AT MOST 1048576: true; the input reads as it did. -/
def fnGridBesideUptoRow : OpenClaim := { program := "ytdiehjigfmjjiaa", sum := "dd3a559fea93a4a75b2c3596f40ac5637a91b969ad22ad65e3cd78c9cf458975", func := "loop.example/reliefmaps/laws.FnGridBeside", spec := "fnGridBeside", unfollowed := true, recurses := true, apart := false, narrowed := true }
def FnGridBesideUptoSaid : Prop := fnGridBesideUptoRow.holds Try.pinned (OpenSpec.upto fnGridBesideSpec)

/-- 'laws.FnGridBelow', WHERE WHAT IT READS IS OF BULK AT MOST 1048576: true; the input reads as it did. -/
def fnGridBelowUptoRow : OpenClaim := { program := "ytdiehjigfmjjiaa", sum := "dd3a559fea93a4a75b2c3596f40ac5637a91b969ad22ad65e3cd78c9cf458975", func := "loop.example/reliefmaps/laws.FnGridBelow", spec := "fnGridBelow", unfollowed := true, recurses := true, apart := false, narrowed := true }
def FnGridBelowUptoSaid : Prop := fnGridBelowUptoRow.holds Try.pinned (OpenSpec.upto fnGridBelowSpec)

/-- 'laws.FnGridPart', WHERE WHAT IT READS IS OF BULK AT MOST 1048576: true; the input reads as it did. -/
def fnGridPartUptoRow : OpenClaim := { program := "ytdiehjigfmjjiaa", sum := "dd3a559fea93a4a75b2c3596f40ac5637a91b969ad22ad65e3cd78c9cf458975", func := "loop.example/reliefmaps/laws.FnGridPart", spec := "fnGridPart", unfollowed := true, recurses := true, apart := false, narrowed := true }
def FnGridPartUptoSaid : Prop := fnGridPartUptoRow.holds Try.pinned (OpenSpec.upto fnGridPartSpec)

end Rows
end Go.Proofs.Ytdiehjigfmjjiaa
