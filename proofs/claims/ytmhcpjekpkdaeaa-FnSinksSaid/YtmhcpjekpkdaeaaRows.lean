/-
  No cell of these rows narrows 'for every input' (looked for: loops, veiled, ifaces, maps, wideKeys, modest, calm, conditions, laid).
  DERIVED. THE GIVEN ROWS OF THIS SEAT. 6 by the template 'for every input the law returns true; each argument reads behind the call as it read before'; 0 by the template 'total and deterministic' (their statements: YtmhcpjekpkdaeaaTotals.lean).
  GIVEN WITH THE SEED: the statements are not yours to turn. If you find one false, say at which input.
  Laid BY PROGRAM, IN A SANDBOX (cutbox-rows.mjs): the forced cells as the released guide's own fill.sh prints them over the translation bece3911c7fba78f… (all of the seat's roots in one cut). By AI agents, Wed Nov 11 2026. No macro, syntax, notation, axiom, sorry.
-/
import Derived.Test.YtmhcpjekpkdaeaaChecked
import GoSem.Claim
import GoSem.ClaimJoined
import GoSem.ClaimMapViews
import Derived.JoinedTies
import Derived.KernelRfl
namespace Go.Proofs.Ytmhcpjekpkdaeaa
/- THE CELL 'sum', in the pinned program and in every row, IS THE sha256 OF THE DUMP (.gsa) THAT YtmhcpjekpkdaeaaProg.lean LOADS. Nothing in Lean hashes anything: it is a label: what it is worth is what the hold of that sum in a sandbox is worth. -/
noncomputable def Try.pinned : Pinned := { name := "ytmhcpjekpkdaeaa", sum := "bece3911c7fba78fb8f156b7ae379b2e22e8f250807b80273ecc8788fe614077", checked := Try.checked }
namespace Rows
def none {H : Type} : Left H := { results := [], args := [] }

/-- 'laws.FnGreatest': WHATEVER THE INPUT: true; the input reads as it did. -/
def fnGreatestSpec : ChangeSpec := { name := "fnGreatest", fn := fun _ => fun
  | [d] => { results := [.lit (.bool true)], args := [d] }
  | _ => none }
def fnGreatestRow : OpenClaim := { program := "ytmhcpjekpkdaeaa", sum := "bece3911c7fba78fb8f156b7ae379b2e22e8f250807b80273ecc8788fe614077", func := "loop.example/reliefmaps/laws.FnGreatest", spec := "fnGreatest", unfollowed := true, recurses := true, apart := false }
def FnGreatestSaid : Prop := fnGreatestRow.holds Try.pinned (OpenSpec.ofChange fnGreatestSpec)

/-- ITS FALSE NEIGHBOUR: 'it returns false'. Refute it at one input. -/
def fnGreatestWrong : ChangeSpec := { name := "fnGreatest", fn := fun _ => fun
  | [d] => { results := [.lit (.bool false)], args := [d] }
  | _ => none }
def FnGreatestWrongFalsely : Prop := fnGreatestRow.holds Try.pinned (OpenSpec.ofChange fnGreatestWrong)

/-- 'laws.FnLand': WHATEVER THE INPUT: true; the input reads as it did. -/
def fnLandSpec : ChangeSpec := { name := "fnLand", fn := fun _ => fun
  | [d] => { results := [.lit (.bool true)], args := [d] }
  | _ => none }
def fnLandRow : OpenClaim := { program := "ytmhcpjekpkdaeaa", sum := "bece3911c7fba78fb8f156b7ae379b2e22e8f250807b80273ecc8788fe614077", func := "loop.example/reliefmaps/laws.FnLand", spec := "fnLand", unfollowed := true, recurses := true, apart := false }
def FnLandSaid : Prop := fnLandRow.holds Try.pinned (OpenSpec.ofChange fnLandSpec)

/-- ITS FALSE NEIGHBOUR: 'it returns false'. Refute it at one input. -/
def fnLandWrong : ChangeSpec := { name := "fnLand", fn := fun _ => fun
  | [d] => { results := [.lit (.bool false)], args := [d] }
  | _ => none }
def FnLandWrongFalsely : Prop := fnLandRow.holds Try.pinned (OpenSpec.ofChange fnLandWrong)

/-- 'laws.FnSinks': WHATEVER THE INPUT: true; the input reads as it did. -/
def fnSinksSpec : ChangeSpec := { name := "fnSinks", fn := fun _ => fun
  | [d] => { results := [.lit (.bool true)], args := [d] }
  | _ => none }
def fnSinksRow : OpenClaim := { program := "ytmhcpjekpkdaeaa", sum := "bece3911c7fba78fb8f156b7ae379b2e22e8f250807b80273ecc8788fe614077", func := "loop.example/reliefmaps/laws.FnSinks", spec := "fnSinks", unfollowed := true, recurses := true, apart := false }
def FnSinksSaid : Prop := fnSinksRow.holds Try.pinned (OpenSpec.ofChange fnSinksSpec)

/-- ITS FALSE NEIGHBOUR: 'it returns false'. Refute it at one input. -/
def fnSinksWrong : ChangeSpec := { name := "fnSinks", fn := fun _ => fun
  | [d] => { results := [.lit (.bool false)], args := [d] }
  | _ => none }
def FnSinksWrongFalsely : Prop := fnSinksRow.holds Try.pinned (OpenSpec.ofChange fnSinksWrong)

/-- 'laws.FnSides': WHATEVER THE INPUT: true; the input reads as it did. -/
def fnSidesSpec : ChangeSpec := { name := "fnSides", fn := fun _ => fun
  | [d] => { results := [.lit (.bool true)], args := [d] }
  | _ => none }
def fnSidesRow : OpenClaim := { program := "ytmhcpjekpkdaeaa", sum := "bece3911c7fba78fb8f156b7ae379b2e22e8f250807b80273ecc8788fe614077", func := "loop.example/reliefmaps/laws.FnSides", spec := "fnSides", unfollowed := true, recurses := true, apart := false }
def FnSidesSaid : Prop := fnSidesRow.holds Try.pinned (OpenSpec.ofChange fnSidesSpec)

/-- ITS FALSE NEIGHBOUR: 'it returns false'. Refute it at one input. -/
def fnSidesWrong : ChangeSpec := { name := "fnSides", fn := fun _ => fun
  | [d] => { results := [.lit (.bool false)], args := [d] }
  | _ => none }
def FnSidesWrongFalsely : Prop := fnSidesRow.holds Try.pinned (OpenSpec.ofChange fnSidesWrong)

/-- 'laws.FnShore': WHATEVER THE INPUT: true; the input reads as it did. -/
def fnShoreSpec : ChangeSpec := { name := "fnShore", fn := fun _ => fun
  | [d] => { results := [.lit (.bool true)], args := [d] }
  | _ => none }
def fnShoreRow : OpenClaim := { program := "ytmhcpjekpkdaeaa", sum := "bece3911c7fba78fb8f156b7ae379b2e22e8f250807b80273ecc8788fe614077", func := "loop.example/reliefmaps/laws.FnShore", spec := "fnShore", unfollowed := true, recurses := true, apart := false }
def FnShoreSaid : Prop := fnShoreRow.holds Try.pinned (OpenSpec.ofChange fnShoreSpec)

/-- ITS FALSE NEIGHBOUR: 'it returns false'. Refute it at one input. -/
def fnShoreWrong : ChangeSpec := { name := "fnShore", fn := fun _ => fun
  | [d] => { results := [.lit (.bool false)], args := [d] }
  | _ => none }
def FnShoreWrongFalsely : Prop := fnShoreRow.holds Try.pinned (OpenSpec.ofChange fnShoreWrong)

/-- 'laws.FnCorners': WHATEVER THE INPUT: true; the input reads as it did. -/
def fnCornersSpec : ChangeSpec := { name := "fnCorners", fn := fun _ => fun
  | [d] => { results := [.lit (.bool true)], args := [d] }
  | _ => none }
def fnCornersRow : OpenClaim := { program := "ytmhcpjekpkdaeaa", sum := "bece3911c7fba78fb8f156b7ae379b2e22e8f250807b80273ecc8788fe614077", func := "loop.example/reliefmaps/laws.FnCorners", spec := "fnCorners", unfollowed := true, recurses := true, apart := false }
def FnCornersSaid : Prop := fnCornersRow.holds Try.pinned (OpenSpec.ofChange fnCornersSpec)

/-- ITS FALSE NEIGHBOUR: 'it returns false'. Refute it at one input. -/
def fnCornersWrong : ChangeSpec := { name := "fnCorners", fn := fun _ => fun
  | [d] => { results := [.lit (.bool false)], args := [d] }
  | _ => none }
def FnCornersWrongFalsely : Prop := fnCornersRow.holds Try.pinned (OpenSpec.ofChange fnCornersWrong)

/- THE SECOND FORM. 'bulk': how many values and letters a reading holds, each counted each time it is reached (what is shared counts as often as it is met; a slice's spare places count too). A statement '..UptoSaid' is the law's where the arguments, and the package variables that the reading takes, are together of bulk at most 1048576: NARROWER than '..Said'. Prove '..Said' where nothing that the law and all that it calls make is longer than what came in: it says more and counts as full. Else prove '..UptoSaid'. A law counts once. -/
mutual
def uptoBulk {H : Type} : DataW H → Nat
  | .lit (.string bytes) => bytes.length + 1
  | .lit _ => 1
  | .nil => 1
  | .ptr d => uptoBulk d + 1
  | .slice elems spare => uptoBulkAll elems + uptoBulkAll spare + 1
  | .agg parts => uptoBulkAll parts + 1
  | .iface _ d => uptoBulk d + 1
  | .map entries => uptoBulkEntries entries + 1
  | .held _ => 1
def uptoBulkAll {H : Type} : List (DataW H) → Nat
  | [] => 0
  | d :: r => uptoBulk d + uptoBulkAll r
def uptoBulkEntries {H : Type} : List (Lit × DataW H) → Nat
  | [] => 0
  | x :: r => uptoBulkEntry x + uptoBulkEntries r
def uptoBulkEntry {H : Type} : Lit × DataW H → Nat
  | (.string bytes, d) => bytes.length + uptoBulk d + 1
  | (_, d) => uptoBulk d + 1
 end
def uptoSmall : (H : Type) → List (DataW H) → Bool := fun _ ds => decide (uptoBulkAll ds ≤ 1048576)
def OpenSpec.upto (s : _root_.Go.ChangeSpec) : _root_.Go.OpenSpec := { _root_.Go.OpenSpec.ofChange s with cond := some uptoSmall }

/-- 'laws.FnGreatest', WHERE WHAT IT READS IS OF BULK AT MOST 1048576: true; the input reads as it did. -/
def fnGreatestUptoRow : OpenClaim := { program := "ytmhcpjekpkdaeaa", sum := "bece3911c7fba78fb8f156b7ae379b2e22e8f250807b80273ecc8788fe614077", func := "loop.example/reliefmaps/laws.FnGreatest", spec := "fnGreatest", unfollowed := true, recurses := true, apart := false, narrowed := true }
def FnGreatestUptoSaid : Prop := fnGreatestUptoRow.holds Try.pinned (OpenSpec.upto fnGreatestSpec)

/-- 'laws.FnLand', WHERE WHAT IT READS IS OF BULK AT MOST 1048576: true; the input reads as it did. -/
def fnLandUptoRow : OpenClaim := { program := "ytmhcpjekpkdaeaa", sum := "bece3911c7fba78fb8f156b7ae379b2e22e8f250807b80273ecc8788fe614077", func := "loop.example/reliefmaps/laws.FnLand", spec := "fnLand", unfollowed := true, recurses := true, apart := false, narrowed := true }
def FnLandUptoSaid : Prop := fnLandUptoRow.holds Try.pinned (OpenSpec.upto fnLandSpec)

/-- 'laws.FnSinks', WHERE WHAT IT READS IS OF BULK AT MOST 1048576: true; the input reads as it did. -/
def fnSinksUptoRow : OpenClaim := { program := "ytmhcpjekpkdaeaa", sum := "bece3911c7fba78fb8f156b7ae379b2e22e8f250807b80273ecc8788fe614077", func := "loop.example/reliefmaps/laws.FnSinks", spec := "fnSinks", unfollowed := true, recurses := true, apart := false, narrowed := true }
def FnSinksUptoSaid : Prop := fnSinksUptoRow.holds Try.pinned (OpenSpec.upto fnSinksSpec)

/-- 'laws.FnSides', WHERE WHAT IT READS IS OF BULK AT MOST 1048576: true; the input reads as it did. -/
def fnSidesUptoRow : OpenClaim := { program := "ytmhcpjekpkdaeaa", sum := "bece3911c7fba78fb8f156b7ae379b2e22e8f250807b80273ecc8788fe614077", func := "loop.example/reliefmaps/laws.FnSides", spec := "fnSides", unfollowed := true, recurses := true, apart := false, narrowed := true }
def FnSidesUptoSaid : Prop := fnSidesUptoRow.holds Try.pinned (OpenSpec.upto fnSidesSpec)

/-- 'laws.FnShore', WHERE WHAT IT READS IS OF BULK AT MOST 1048576: true; the input reads as it did. -/
def fnShoreUptoRow : OpenClaim := { program := "ytmhcpjekpkdaeaa", sum := "bece3911c7fba78fb8f156b7ae379b2e22e8f250807b80273ecc8788fe614077", func := "loop.example/reliefmaps/laws.FnShore", spec := "fnShore", unfollowed := true, recurses := true, apart := false, narrowed := true }
def FnShoreUptoSaid : Prop := fnShoreUptoRow.holds Try.pinned (OpenSpec.upto fnShoreSpec)

/-- 'laws.FnCorners', WHERE WHAT IT READS IS OF BULK AT MOST 1048576: true; the input reads as it did. -/
def fnCornersUptoRow : OpenClaim := { program := "ytmhcpjekpkdaeaa", sum := "bece3911c7fba78fb8f156b7ae379b2e22e8f250807b80273ecc8788fe614077", func := "loop.example/reliefmaps/laws.FnCorners", spec := "fnCorners", unfollowed := true, recurses := true, apart := false, narrowed := true }
def FnCornersUptoSaid : Prop := fnCornersUptoRow.holds Try.pinned (OpenSpec.upto fnCornersSpec)

end Rows
end Go.Proofs.Ytmhcpjekpkdaeaa
