/-
  No cell of these rows narrows 'for every input' (looked for: loops, veiled, ifaces, maps, wideKeys, modest, calm, conditions, laid).
  DERIVED. THE GIVEN ROWS OF THIS SEAT. 6 by the template 'for every input the law returns true; each argument reads behind the call as it read before'; 0 by the template 'total and deterministic' (their statements: YtbjhaggncpkdhaaTotals.lean).
  GIVEN WITH THE SEED: the statements are not yours to turn. If you find one false, say at which input.
  Laid BY PROGRAM, IN A SANDBOX (cutbox-rows.mjs): the forced cells as the released guide's own fill.sh prints them over the translation eb415f1ed527d496… (all of the seat's roots in one cut). By AI agents, Wed Nov 11 2026. No macro, syntax, notation, axiom, sorry.
-/
import Derived.Test.YtbjhaggncpkdhaaChecked
import GoSem.Claim
import GoSem.ClaimJoined
import GoSem.ClaimMapViews
import Derived.JoinedTies
import Derived.KernelRfl
namespace Go.Proofs.Ytbjhaggncpkdhaa
/- THE CELL 'sum', in the pinned program and in every row, IS THE sha256 OF THE DUMP (.gsa) THAT YtbjhaggncpkdhaaProg.lean LOADS. Nothing in Lean hashes anything: it is a label: what it is worth is what the hold of that sum in a sandbox is worth. -/
noncomputable def Try.pinned : Pinned := { name := "ytbjhaggncpkdhaa", sum := "eb415f1ed527d496348dad879e31cf4399792d0fe62a0252ac2769e6423bf959", checked := Try.checked }
namespace Rows
def none {H : Type} : Left H := { results := [], args := [] }

/-- 'laws.FnExactPlaceFar': WHATEVER THE INPUT: true; the input reads as it did. -/
def fnExactPlaceFarSpec : ChangeSpec := { name := "fnExactPlaceFar", fn := fun _ => fun
  | [d1, d2, d3, d4] => { results := [.lit (.bool true)], args := [d1, d2, d3, d4] }
  | _ => none }
def fnExactPlaceFarRow : OpenClaim := { program := "ytbjhaggncpkdhaa", sum := "eb415f1ed527d496348dad879e31cf4399792d0fe62a0252ac2769e6423bf959", func := "loop.example/reliefmaps/laws.FnExactPlaceFar", spec := "fnExactPlaceFar", apart := false }
def FnExactPlaceFarSaid : Prop := fnExactPlaceFarRow.holds Try.pinned (OpenSpec.ofChange fnExactPlaceFarSpec)

/-- ITS FALSE NEIGHBOUR: 'it returns false'. Refute it at one input. -/
def fnExactPlaceFarWrong : ChangeSpec := { name := "fnExactPlaceFar", fn := fun _ => fun
  | [d1, d2, d3, d4] => { results := [.lit (.bool false)], args := [d1, d2, d3, d4] }
  | _ => none }
def FnExactPlaceFarWrongFalsely : Prop := fnExactPlaceFarRow.holds Try.pinned (OpenSpec.ofChange fnExactPlaceFarWrong)

/-- 'laws.FnExactSheetFar': WHATEVER THE INPUT: true; the input reads as it did. -/
def fnExactSheetFarSpec : ChangeSpec := { name := "fnExactSheetFar", fn := fun _ => fun
  | [d1, d2] => { results := [.lit (.bool true)], args := [d1, d2] }
  | _ => none }
def fnExactSheetFarRow : OpenClaim := { program := "ytbjhaggncpkdhaa", sum := "eb415f1ed527d496348dad879e31cf4399792d0fe62a0252ac2769e6423bf959", func := "loop.example/reliefmaps/laws.FnExactSheetFar", spec := "fnExactSheetFar", recurses := true, apart := false }
def FnExactSheetFarSaid : Prop := fnExactSheetFarRow.holds Try.pinned (OpenSpec.ofChange fnExactSheetFarSpec)

/-- ITS FALSE NEIGHBOUR: 'it returns false'. Refute it at one input. -/
def fnExactSheetFarWrong : ChangeSpec := { name := "fnExactSheetFar", fn := fun _ => fun
  | [d1, d2] => { results := [.lit (.bool false)], args := [d1, d2] }
  | _ => none }
def FnExactSheetFarWrongFalsely : Prop := fnExactSheetFarRow.holds Try.pinned (OpenSpec.ofChange fnExactSheetFarWrong)

/-- 'laws.FnExactGridsAgree': WHATEVER THE INPUT: true; the input reads as it did. -/
def fnExactGridsAgreeSpec : ChangeSpec := { name := "fnExactGridsAgree", fn := fun _ => fun
  | [d1, d2] => { results := [.lit (.bool true)], args := [d1, d2] }
  | _ => none }
def fnExactGridsAgreeRow : OpenClaim := { program := "ytbjhaggncpkdhaa", sum := "eb415f1ed527d496348dad879e31cf4399792d0fe62a0252ac2769e6423bf959", func := "loop.example/reliefmaps/laws.FnExactGridsAgree", spec := "fnExactGridsAgree", unfollowed := true, recurses := true, apart := false }
def FnExactGridsAgreeSaid : Prop := fnExactGridsAgreeRow.holds Try.pinned (OpenSpec.ofChange fnExactGridsAgreeSpec)

/-- ITS FALSE NEIGHBOUR: 'it returns false'. Refute it at one input. -/
def fnExactGridsAgreeWrong : ChangeSpec := { name := "fnExactGridsAgree", fn := fun _ => fun
  | [d1, d2] => { results := [.lit (.bool false)], args := [d1, d2] }
  | _ => none }
def FnExactGridsAgreeWrongFalsely : Prop := fnExactGridsAgreeRow.holds Try.pinned (OpenSpec.ofChange fnExactGridsAgreeWrong)

/-- 'laws.FnExactGridsJoin': WHATEVER THE INPUT: true; the input reads as it did. -/
def fnExactGridsJoinSpec : ChangeSpec := { name := "fnExactGridsJoin", fn := fun _ => fun
  | [d1, d2] => { results := [.lit (.bool true)], args := [d1, d2] }
  | _ => none }
def fnExactGridsJoinRow : OpenClaim := { program := "ytbjhaggncpkdhaa", sum := "eb415f1ed527d496348dad879e31cf4399792d0fe62a0252ac2769e6423bf959", func := "loop.example/reliefmaps/laws.FnExactGridsJoin", spec := "fnExactGridsJoin", unfollowed := true, recurses := true, apart := false }
def FnExactGridsJoinSaid : Prop := fnExactGridsJoinRow.holds Try.pinned (OpenSpec.ofChange fnExactGridsJoinSpec)

/-- ITS FALSE NEIGHBOUR: 'it returns false'. Refute it at one input. -/
def fnExactGridsJoinWrong : ChangeSpec := { name := "fnExactGridsJoin", fn := fun _ => fun
  | [d1, d2] => { results := [.lit (.bool false)], args := [d1, d2] }
  | _ => none }
def FnExactGridsJoinWrongFalsely : Prop := fnExactGridsJoinRow.holds Try.pinned (OpenSpec.ofChange fnExactGridsJoinWrong)

/-- 'laws.FnExactGridsMend': WHATEVER THE INPUT: true; the input reads as it did. -/
def fnExactGridsMendSpec : ChangeSpec := { name := "fnExactGridsMend", fn := fun _ => fun
  | [d1, d2] => { results := [.lit (.bool true)], args := [d1, d2] }
  | _ => none }
def fnExactGridsMendRow : OpenClaim := { program := "ytbjhaggncpkdhaa", sum := "eb415f1ed527d496348dad879e31cf4399792d0fe62a0252ac2769e6423bf959", func := "loop.example/reliefmaps/laws.FnExactGridsMend", spec := "fnExactGridsMend", unfollowed := true, recurses := true, apart := false }
def FnExactGridsMendSaid : Prop := fnExactGridsMendRow.holds Try.pinned (OpenSpec.ofChange fnExactGridsMendSpec)

/-- ITS FALSE NEIGHBOUR: 'it returns false'. Refute it at one input. -/
def fnExactGridsMendWrong : ChangeSpec := { name := "fnExactGridsMend", fn := fun _ => fun
  | [d1, d2] => { results := [.lit (.bool false)], args := [d1, d2] }
  | _ => none }
def FnExactGridsMendWrongFalsely : Prop := fnExactGridsMendRow.holds Try.pinned (OpenSpec.ofChange fnExactGridsMendWrong)

/-- 'laws.FnExactGridsGap': WHATEVER THE INPUT: true; the input reads as it did. -/
def fnExactGridsGapSpec : ChangeSpec := { name := "fnExactGridsGap", fn := fun _ => fun
  | [d1, d2] => { results := [.lit (.bool true)], args := [d1, d2] }
  | _ => none }
def fnExactGridsGapRow : OpenClaim := { program := "ytbjhaggncpkdhaa", sum := "eb415f1ed527d496348dad879e31cf4399792d0fe62a0252ac2769e6423bf959", func := "loop.example/reliefmaps/laws.FnExactGridsGap", spec := "fnExactGridsGap", unfollowed := true, recurses := true, apart := false }
def FnExactGridsGapSaid : Prop := fnExactGridsGapRow.holds Try.pinned (OpenSpec.ofChange fnExactGridsGapSpec)

/-- ITS FALSE NEIGHBOUR: 'it returns false'. Refute it at one input. -/
def fnExactGridsGapWrong : ChangeSpec := { name := "fnExactGridsGap", fn := fun _ => fun
  | [d1, d2] => { results := [.lit (.bool false)], args := [d1, d2] }
  | _ => none }
def FnExactGridsGapWrongFalsely : Prop := fnExactGridsGapRow.holds Try.pinned (OpenSpec.ofChange fnExactGridsGapWrong)

/- THE SECOND FORM. 'bulk': how many values and letters a reading holds, each counted each time it is reached (what is shared counts as often as it is met; a slice's spare places count too). A statement '..UptoSaid' is the law's where the arguments, and the package variables that the reading takes, are together of bulk at most 1048576: NARROWER than '..Said'. Prove '..Said' where nothing that the law and all that it calls make is longer than what came in: it says more and counts as full. Else prove '..UptoSaid'. A law counts once. -/
mutual
def uptoBulk {H : Type} : DataW H → Nat
  | .lit (.string bytes) => bytes.length + 1
  | .lit _ => 1
  | .nil => 1
  | .ptr d => uptoBulk d + 1
  | .slice elems spare => uptoBulkAll elems + uptoBulkAll spare + 1
  | .agg parts => uptoBulkAll parts + 1
  | .iface _ d => uptoBulk d + 1
  | .map entries => uptoBulkEntries entries + 1
  | .held _ => 1
def uptoBulkAll {H : Type} : List (DataW H) → Nat
  | [] => 0
  | d :: r => uptoBulk d + uptoBulkAll r
def uptoBulkEntries {H : Type} : List (Lit × DataW H) → Nat
  | [] => 0
  | x :: r => uptoBulkEntry x + uptoBulkEntries r
def uptoBulkEntry {H : Type} : Lit × DataW H → Nat
  | (.string bytes, d) => bytes.length + uptoBulk d + 1
  | (_, d) => uptoBulk d + 1
 end
def uptoSmall : (H : Type) → List (DataW H) → Bool := fun _ ds => decide (uptoBulkAll ds ≤ 1048576)
def OpenSpec.upto (s : _root_.Go.ChangeSpec) : _root_.Go.OpenSpec := { _root_.Go.OpenSpec.ofChange s with cond := some uptoSmall }

/-- 'laws.FnExactPlaceFar', WHERE WHAT IT READS IS OF BULK AT MOST 1048576: true; the input reads as it did. -/
def fnExactPlaceFarUptoRow : OpenClaim := { program := "ytbjhaggncpkdhaa", sum := "eb415f1ed527d496348dad879e31cf4399792d0fe62a0252ac2769e6423bf959", func := "loop.example/reliefmaps/laws.FnExactPlaceFar", spec := "fnExactPlaceFar", apart := false, narrowed := true }
def FnExactPlaceFarUptoSaid : Prop := fnExactPlaceFarUptoRow.holds Try.pinned (OpenSpec.upto fnExactPlaceFarSpec)

/-- 'laws.FnExactSheetFar', WHERE WHAT IT READS IS OF BULK AT MOST 1048576: true; the input reads as it did. -/
def fnExactSheetFarUptoRow : OpenClaim := { program := "ytbjhaggncpkdhaa", sum := "eb415f1ed527d496348dad879e31cf4399792d0fe62a0252ac2769e6423bf959", func := "loop.example/reliefmaps/laws.FnExactSheetFar", spec := "fnExactSheetFar", recurses := true, apart := false, narrowed := true }
def FnExactSheetFarUptoSaid : Prop := fnExactSheetFarUptoRow.holds Try.pinned (OpenSpec.upto fnExactSheetFarSpec)

/-- 'laws.FnExactGridsAgree', WHERE WHAT IT READS IS OF BULK AT MOST 1048576: true; the input reads as it did. -/
def fnExactGridsAgreeUptoRow : OpenClaim := { program := "ytbjhaggncpkdhaa", sum := "eb415f1ed527d496348dad879e31cf4399792d0fe62a0252ac2769e6423bf959", func := "loop.example/reliefmaps/laws.FnExactGridsAgree", spec := "fnExactGridsAgree", unfollowed := true, recurses := true, apart := false, narrowed := true }
def FnExactGridsAgreeUptoSaid : Prop := fnExactGridsAgreeUptoRow.holds Try.pinned (OpenSpec.upto fnExactGridsAgreeSpec)

/-- 'laws.FnExactGridsJoin', WHERE WHAT IT READS IS OF BULK AT MOST 1048576: true; the input reads as it did. -/
def fnExactGridsJoinUptoRow : OpenClaim := { program := "ytbjhaggncpkdhaa", sum := "eb415f1ed527d496348dad879e31cf4399792d0fe62a0252ac2769e6423bf959", func := "loop.example/reliefmaps/laws.FnExactGridsJoin", spec := "fnExactGridsJoin", unfollowed := true, recurses := true, apart := false, narrowed := true }
def FnExactGridsJoinUptoSaid : Prop := fnExactGridsJoinUptoRow.holds Try.pinned (OpenSpec.upto fnExactGridsJoinSpec)

/-- 'laws.FnExactGridsMend', WHERE WHAT IT READS IS OF BULK AT MOST 1048576: true; the input reads as it did. -/
def fnExactGridsMendUptoRow : OpenClaim := { program := "ytbjhaggncpkdhaa", sum := "eb415f1ed527d496348dad879e31cf4399792d0fe62a0252ac2769e6423bf959", func := "loop.example/reliefmaps/laws.FnExactGridsMend", spec := "fnExactGridsMend", unfollowed := true, recurses := true, apart := false, narrowed := true }
def FnExactGridsMendUptoSaid : Prop := fnExactGridsMendUptoRow.holds Try.pinned (OpenSpec.upto fnExactGridsMendSpec)

/-- 'laws.FnExactGridsGap', WHERE WHAT IT READS IS OF BULK AT MOST 1048576: true; the input reads as it did. -/
def fnExactGridsGapUptoRow : OpenClaim := { program := "ytbjhaggncpkdhaa", sum := "eb415f1ed527d496348dad879e31cf4399792d0fe62a0252ac2769e6423bf959", func := "loop.example/reliefmaps/laws.FnExactGridsGap", spec := "fnExactGridsGap", unfollowed := true, recurses := true, apart := false, narrowed := true }
def FnExactGridsGapUptoSaid : Prop := fnExactGridsGapUptoRow.holds Try.pinned (OpenSpec.upto fnExactGridsGapSpec)

end Rows
end Go.Proofs.Ytbjhaggncpkdhaa
