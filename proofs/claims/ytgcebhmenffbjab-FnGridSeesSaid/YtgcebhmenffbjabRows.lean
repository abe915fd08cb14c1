/-
  No cell of these rows narrows 'for every input' (looked for: loops, veiled, ifaces, maps, wideKeys, modest, calm, conditions, laid).
  DERIVED. THE GIVEN ROWS OF THIS SEAT. 12 by the template 'for every input the law returns true; each argument reads behind the call as it read before'; 0 by the template 'total and deterministic' (their statements: YtgcebhmenffbjabTotals.lean).
  GIVEN WITH THE SEED: the statements are not yours to turn. If you find one false, say at which input.
  Laid BY PROGRAM, IN A SANDBOX (cutbox-rows.mjs): the forced cells as the released guide's own fill.sh prints them over the translation ba5aeb78d327d41b… (all of the seat's roots in one cut). By AI agents, Wed Nov 11 2026. No macro, syntax, notation, axiom, sorry.
-/
import Derived.Test.YtgcebhmenffbjabChecked
import GoSem.Claim
import GoSem.ClaimJoined
import GoSem.ClaimMapViews
import Derived.JoinedTies
import Derived.KernelRfl
namespace Go.Proofs.Ytgcebhmenffbjab
/- THE CELL 'sum', in the pinned program and in every row, IS THE sha256 OF THE DUMP (.gsa) THAT YtgcebhmenffbjabProg.lean LOADS. Nothing in Lean hashes anything: it is a label: what it is worth is what the hold of that sum in a sandbox is worth. -/
noncomputable def Try.pinned : Pinned := { name := "ytgcebhmenffbjab", sum := "ba5aeb78d327d41b404901ff9043f8fdcbd621f8388bdef7c9b6dd24f1b52e12", checked := Try.checked }
namespace Rows
def none {H : Type} : Left H := { results := [], args := [] }

/-- 'laws.FnSees': WHATEVER THE INPUT: true; the input reads as it did. -/
def fnSeesSpec : ChangeSpec := { name := "fnSees", fn := fun _ => fun
  | [d] => { results := [.lit (.bool true)], args := [d] }
  | _ => none }
def fnSeesRow : OpenClaim := { program := "ytgcebhmenffbjab", sum := "ba5aeb78d327d41b404901ff9043f8fdcbd621f8388bdef7c9b6dd24f1b52e12", func := "loop.example/reliefmaps/laws.FnSees", spec := "fnSees", unfollowed := true, recurses := true, apart := false }
def FnSeesSaid : Prop := fnSeesRow.holds Try.pinned (OpenSpec.ofChange fnSeesSpec)

/-- ITS FALSE NEIGHBOUR: 'it returns false'. Refute it at one input. -/
def fnSeesWrong : ChangeSpec := { name := "fnSees", fn := fun _ => fun
  | [d] => { results := [.lit (.bool false)], args := [d] }
  | _ => none }
def FnSeesWrongFalsely : Prop := fnSeesRow.holds Try.pinned (OpenSpec.ofChange fnSeesWrong)

/-- 'laws.FnSeen': WHATEVER THE INPUT: true; the input reads as it did. -/
def fnSeenSpec : ChangeSpec := { name := "fnSeen", fn := fun _ => fun
  | [d] => { results := [.lit (.bool true)], args := [d] }
  | _ => none }
def fnSeenRow : OpenClaim := { program := "ytgcebhmenffbjab", sum := "ba5aeb78d327d41b404901ff9043f8fdcbd621f8388bdef7c9b6dd24f1b52e12", func := "loop.example/reliefmaps/laws.FnSeen", spec := "fnSeen", unfollowed := true, recurses := true, apart := false }
def FnSeenSaid : Prop := fnSeenRow.holds Try.pinned (OpenSpec.ofChange fnSeenSpec)

/-- ITS FALSE NEIGHBOUR: 'it returns false'. Refute it at one input. -/
def fnSeenWrong : ChangeSpec := { name := "fnSeen", fn := fun _ => fun
  | [d] => { results := [.lit (.bool false)], args := [d] }
  | _ => none }
def FnSeenWrongFalsely : Prop := fnSeenRow.holds Try.pinned (OpenSpec.ofChange fnSeenWrong)

/-- 'laws.FnPairs': WHATEVER THE INPUT: true; the input reads as it did. -/
def fnPairsSpec : ChangeSpec := { name := "fnPairs", fn := fun _ => fun
  | [d] => { results := [.lit (.bool true)], args := [d] }
  | _ => none }
def fnPairsRow : OpenClaim := { program := "ytgcebhmenffbjab", sum := "ba5aeb78d327d41b404901ff9043f8fdcbd621f8388bdef7c9b6dd24f1b52e12", func := "loop.example/reliefmaps/laws.FnPairs", spec := "fnPairs", unfollowed := true, recurses := true, apart := false }
def FnPairsSaid : Prop := fnPairsRow.holds Try.pinned (OpenSpec.ofChange fnPairsSpec)

/-- ITS FALSE NEIGHBOUR: 'it returns false'. Refute it at one input. -/
def fnPairsWrong : ChangeSpec := { name := "fnPairs", fn := fun _ => fun
  | [d] => { results := [.lit (.bool false)], args := [d] }
  | _ => none }
def FnPairsWrongFalsely : Prop := fnPairsRow.holds Try.pinned (OpenSpec.ofChange fnPairsWrong)

/-- 'laws.FnEye': WHATEVER THE INPUT: true; the input reads as it did. -/
def fnEyeSpec : ChangeSpec := { name := "fnEye", fn := fun _ => fun
  | [d] => { results := [.lit (.bool true)], args := [d] }
  | _ => none }
def fnEyeRow : OpenClaim := { program := "ytgcebhmenffbjab", sum := "ba5aeb78d327d41b404901ff9043f8fdcbd621f8388bdef7c9b6dd24f1b52e12", func := "loop.example/reliefmaps/laws.FnEye", spec := "fnEye", unfollowed := true, recurses := true, apart := false }
def FnEyeSaid : Prop := fnEyeRow.holds Try.pinned (OpenSpec.ofChange fnEyeSpec)

/-- ITS FALSE NEIGHBOUR: 'it returns false'. Refute it at one input. -/
def fnEyeWrong : ChangeSpec := { name := "fnEye", fn := fun _ => fun
  | [d] => { results := [.lit (.bool false)], args := [d] }
  | _ => none }
def FnEyeWrongFalsely : Prop := fnEyeRow.holds Try.pinned (OpenSpec.ofChange fnEyeWrong)

/-- 'laws.FnHull': WHATEVER THE INPUT: true; the input reads as it did. -/
def fnHullSpec : ChangeSpec := { name := "fnHull", fn := fun _ => fun
  | [d] => { results := [.lit (.bool true)], args := [d] }
  | _ => none }
def fnHullRow : OpenClaim := { program := "ytgcebhmenffbjab", sum := "ba5aeb78d327d41b404901ff9043f8fdcbd621f8388bdef7c9b6dd24f1b52e12", func := "loop.example/reliefmaps/laws.FnHull", spec := "fnHull", unfollowed := true, recurses := true, apart := false }
def FnHullSaid : Prop := fnHullRow.holds Try.pinned (OpenSpec.ofChange fnHullSpec)

/-- ITS FALSE NEIGHBOUR: 'it returns false'. Refute it at one input. -/
def fnHullWrong : ChangeSpec := { name := "fnHull", fn := fun _ => fun
  | [d] => { results := [.lit (.bool false)], args := [d] }
  | _ => none }
def FnHullWrongFalsely : Prop := fnHullRow.holds Try.pinned (OpenSpec.ofChange fnHullWrong)

/-- 'laws.FnHullSees': WHATEVER THE INPUT: true; the input reads as it did. -/
def fnHullSeesSpec : ChangeSpec := { name := "fnHullSees", fn := fun _ => fun
  | [d1, d2] => { results := [.lit (.bool true)], args := [d1, d2] }
  | _ => none }
def fnHullSeesRow : OpenClaim := { program := "ytgcebhmenffbjab", sum := "ba5aeb78d327d41b404901ff9043f8fdcbd621f8388bdef7c9b6dd24f1b52e12", func := "loop.example/reliefmaps/laws.FnHullSees", spec := "fnHullSees", unfollowed := true, recurses := true, apart := false }
def FnHullSeesSaid : Prop := fnHullSeesRow.holds Try.pinned (OpenSpec.ofChange fnHullSeesSpec)

/-- ITS FALSE NEIGHBOUR: 'it returns false'. Refute it at one input. -/
def fnHullSeesWrong : ChangeSpec := { name := "fnHullSees", fn := fun _ => fun
  | [d1, d2] => { results := [.lit (.bool false)], args := [d1, d2] }
  | _ => none }
def FnHullSeesWrongFalsely : Prop := fnHullSeesRow.holds Try.pinned (OpenSpec.ofChange fnHullSeesWrong)

/-- 'laws.FnBack': WHATEVER THE INPUT: true; the input reads as it did. -/
def fnBackSpec : ChangeSpec := { name := "fnBack", fn := fun _ => fun
  | [d] => { results := [.lit (.bool true)], args := [d] }
  | _ => none }
def fnBackRow : OpenClaim := { program := "ytgcebhmenffbjab", sum := "ba5aeb78d327d41b404901ff9043f8fdcbd621f8388bdef7c9b6dd24f1b52e12", func := "loop.example/reliefmaps/laws.FnBack", spec := "fnBack", apart := false }
def FnBackSaid : Prop := fnBackRow.holds Try.pinned (OpenSpec.ofChange fnBackSpec)

/-- ITS FALSE NEIGHBOUR: 'it returns false'. Refute it at one input. -/
def fnBackWrong : ChangeSpec := { name := "fnBack", fn := fun _ => fun
  | [d] => { results := [.lit (.bool false)], args := [d] }
  | _ => none }
def FnBackWrongFalsely : Prop := fnBackRow.holds Try.pinned (OpenSpec.ofChange fnBackWrong)

/-- 'laws.FnTilt': WHATEVER THE INPUT: true; the input reads as it did. -/
def fnTiltSpec : ChangeSpec := { name := "fnTilt", fn := fun _ => fun
  | [d] => { results := [.lit (.bool true)], args := [d] }
  | _ => none }
def fnTiltRow : OpenClaim := { program := "ytgcebhmenffbjab", sum := "ba5aeb78d327d41b404901ff9043f8fdcbd621f8388bdef7c9b6dd24f1b52e12", func := "loop.example/reliefmaps/laws.FnTilt", spec := "fnTilt", unfollowed := true, recurses := true, apart := false }
def FnTiltSaid : Prop := fnTiltRow.holds Try.pinned (OpenSpec.ofChange fnTiltSpec)

/-- ITS FALSE NEIGHBOUR: 'it returns false'. Refute it at one input. -/
def fnTiltWrong : ChangeSpec := { name := "fnTilt", fn := fun _ => fun
  | [d] => { results := [.lit (.bool false)], args := [d] }
  | _ => none }
def FnTiltWrongFalsely : Prop := fnTiltRow.holds Try.pinned (OpenSpec.ofChange fnTiltWrong)

/-- 'laws.FnClimb': WHATEVER THE INPUT: true; the input reads as it did. -/
def fnClimbSpec : ChangeSpec := { name := "fnClimb", fn := fun _ => fun
  | [d] => { results := [.lit (.bool true)], args := [d] }
  | _ => none }
def fnClimbRow : OpenClaim := { program := "ytgcebhmenffbjab", sum := "ba5aeb78d327d41b404901ff9043f8fdcbd621f8388bdef7c9b6dd24f1b52e12", func := "loop.example/reliefmaps/laws.FnClimb", spec := "fnClimb", apart := false }
def FnClimbSaid : Prop := fnClimbRow.holds Try.pinned (OpenSpec.ofChange fnClimbSpec)

/-- ITS FALSE NEIGHBOUR: 'it returns false'. Refute it at one input. -/
def fnClimbWrong : ChangeSpec := { name := "fnClimb", fn := fun _ => fun
  | [d] => { results := [.lit (.bool false)], args := [d] }
  | _ => none }
def FnClimbWrongFalsely : Prop := fnClimbRow.holds Try.pinned (OpenSpec.ofChange fnClimbWrong)

/-- 'laws.FnRow': WHATEVER THE INPUT: true; the input reads as it did. -/
def fnRowSpec : ChangeSpec := { name := "fnRow", fn := fun _ => fun
  | [d] => { results := [.lit (.bool true)], args := [d] }
  | _ => none }
def fnRowRow : OpenClaim := { program := "ytgcebhmenffbjab", sum := "ba5aeb78d327d41b404901ff9043f8fdcbd621f8388bdef7c9b6dd24f1b52e12", func := "loop.example/reliefmaps/laws.FnRow", spec := "fnRow", unfollowed := true, recurses := true, apart := false }
def FnRowSaid : Prop := fnRowRow.holds Try.pinned (OpenSpec.ofChange fnRowSpec)

/-- ITS FALSE NEIGHBOUR: 'it returns false'. Refute it at one input. -/
def fnRowWrong : ChangeSpec := { name := "fnRow", fn := fun _ => fun
  | [d] => { results := [.lit (.bool false)], args := [d] }
  | _ => none }
def FnRowWrongFalsely : Prop := fnRowRow.holds Try.pinned (OpenSpec.ofChange fnRowWrong)

/-- 'laws.FnGridSees': WHATEVER THE INPUT: true; the input reads as it did. -/
def fnGridSeesSpec : ChangeSpec := { name := "fnGridSees", fn := fun _ => fun
  | [d] => { results := [.lit (.bool true)], args := [d] }
  | _ => none }
def fnGridSeesRow : OpenClaim := { program := "ytgcebhmenffbjab", sum := "ba5aeb78d327d41b404901ff9043f8fdcbd621f8388bdef7c9b6dd24f1b52e12", func := "loop.example/reliefmaps/laws.FnGridSees", spec := "fnGridSees", unfollowed := true, recurses := true, apart := false }
def FnGridSeesSaid : Prop := fnGridSeesRow.holds Try.pinned (OpenSpec.ofChange fnGridSeesSpec)

/-- ITS FALSE NEIGHBOUR: 'it returns false'. Refute it at one input. -/
def fnGridSeesWrong : ChangeSpec := { name := "fnGridSees", fn := fun _ => fun
  | [d] => { results := [.lit (.bool false)], args := [d] }
  | _ => none }
def FnGridSeesWrongFalsely : Prop := fnGridSeesRow.holds Try.pinned (OpenSpec.ofChange fnGridSeesWrong)

/-- 'laws.FnExactProfileWatch': WHATEVER THE INPUT: true; the input reads as it did. -/
def fnExactProfileWatchSpec : ChangeSpec := { name := "fnExactProfileWatch", fn := fun _ => fun
  | [d] => { results := [.lit (.bool true)], args := [d] }
  | _ => none }
def fnExactProfileWatchRow : OpenClaim := { program := "ytgcebhmenffbjab", sum := "ba5aeb78d327d41b404901ff9043f8fdcbd621f8388bdef7c9b6dd24f1b52e12", func := "loop.example/reliefmaps/laws.FnExactProfileWatch", spec := "fnExactProfileWatch", unfollowed := true, recurses := true, apart := false }
def FnExactProfileWatchSaid : Prop := fnExactProfileWatchRow.holds Try.pinned (OpenSpec.ofChange fnExactProfileWatchSpec)

/-- ITS FALSE NEIGHBOUR: 'it returns false'. Refute it at one input. -/
def fnExactProfileWatchWrong : ChangeSpec := { name := "fnExactProfileWatch", fn := fun _ => fun
  | [d] => { results := [.lit (.bool false)], args := [d] }
  | _ => none }
def FnExactProfileWatchWrongFalsely : Prop := fnExactProfileWatchRow.holds Try.pinned (OpenSpec.ofChange fnExactProfileWatchWrong)

/- THE SECOND FORM. 'bulk': how many values and letters a reading holds, each counted each time it is reached (what is shared counts as often as it is met; a slice's spare places count too). A statement '..UptoSaid' is the law's where the arguments, and the package variables that the reading takes, are together of bulk at most 1048576: NARROWER than '..Said'. Prove '..Said' where nothing that the law and all that it calls make is longer than what came in: it says more and counts as full. Else prove '..UptoSaid'. A law counts once. -/
mutual
def uptoBulk {H : Type} : DataW H → Nat
  | .lit (.string bytes) => bytes.length + 1
  | .lit _ => 1
  | .nil => 1
  | .ptr d => uptoBulk d + 1
  | .slice elems spare => uptoBulkAll elems + uptoBulkAll spare + 1
  | .agg parts => uptoBulkAll parts + 1
  | .iface _ d => uptoBulk d + 1
  | .map entries => uptoBulkEntries entries + 1
  | .held _ => 1
def uptoBulkAll {H : Type} : List (DataW H) → Nat
  | [] => 0
  | d :: r => uptoBulk d + uptoBulkAll r
def uptoBulkEntries {H : Type} : List (Lit × DataW H) → Nat
  | [] => 0
  | x :: r => uptoBulkEntry x + uptoBulkEntries r
def uptoBulkEntry {H : Type} : Lit × DataW H → Nat
  | (.string bytes, d) => bytes.length + uptoBulk d + 1
  | (_, d) => uptoBulk d + 1
 end
def uptoSmall : (H : Type) → List (DataW H) → Bool := fun _ ds => decide (uptoBulkAll ds ≤ 1048576)
def OpenSpec.upto (s : _root_.Go.ChangeSpec) : _root_.Go.OpenSpec := { _root_.Go.OpenSpec.ofChange s with cond := some uptoSmall }

/-- 'laws.FnSees', WHERE WHAT IT READS IS OF BULK AT MOST 1048576: true; the input reads as it did. -/
def fnSeesUptoRow : OpenClaim := { program := "ytgcebhmenffbjab", sum := "ba5aeb78d327d41b404901ff9043f8fdcbd621f8388bdef7c9b6dd24f1b52e12", func := "loop.example/reliefmaps/laws.FnSees", spec := "fnSees", unfollowed := true, recurses := true, apart := false, narrowed := true }
def FnSeesUptoSaid : Prop := fnSeesUptoRow.holds Try.pinned (OpenSpec.upto fnSeesSpec)

/-- 'laws.FnSeen', WHERE WHAT IT READS IS OF BULK AT MOST 1048576: true; the input reads as it did. -/
def fnSeenUptoRow : OpenClaim := { program := "ytgcebhmenffbjab", sum := "ba5aeb78d327d41b404901ff9043f8fdcbd621f8388bdef7c9b6dd24f1b52e12", func := "loop.example/reliefmaps/laws.FnSeen", spec := "fnSeen", unfollowed := true, recurses := true, apart := false, narrowed := true }
def FnSeenUptoSaid : Prop := fnSeenUptoRow.holds Try.pinned (OpenSpec.upto fnSeenSpec)

/-- 'laws.FnPairs', WHERE WHAT IT READS IS OF BULK AT MOST 1048576: true; the input reads as it did. -/
def fnPairsUptoRow : OpenClaim := { program := "ytgcebhmenffbjab", sum := "ba5aeb78d327d41b404901ff9043f8fdcbd621f8388bdef7c9b6dd24f1b52e12", func := "loop.example/reliefmaps/laws.FnPairs", spec := "fnPairs", unfollowed := true, recurses := true, apart := false, narrowed := true }
def FnPairsUptoSaid : Prop := fnPairsUptoRow.holds Try.pinned (OpenSpec.upto fnPairsSpec)

/-- 'laws.FnEye', WHERE WHAT IT READS IS OF BULK AT MOST 1048576: true; the input reads as it did. -/
def fnEyeUptoRow : OpenClaim := { program := "ytgcebhmenffbjab", sum := "ba5aeb78d327d41b404901ff9043f8fdcbd621f8388bdef7c9b6dd24f1b52e12", func := "loop.example/reliefmaps/laws.FnEye", spec := "fnEye", unfollowed := true, recurses := true, apart := false, narrowed := true }
def FnEyeUptoSaid : Prop := fnEyeUptoRow.holds Try.pinned (OpenSpec.upto fnEyeSpec)

/-- 'laws.FnHull', WHERE WHAT IT READS IS OF BULK AT MOST 1048576: true; the input reads as it did. -/
def fnHullUptoRow : OpenClaim := { program := "ytgcebhmenffbjab", sum := "ba5aeb78d327d41b404901ff9043f8fdcbd621f8388bdef7c9b6dd24f1b52e12", func := "loop.example/reliefmaps/laws.FnHull", spec := "fnHull", unfollowed := true, recurses := true, apart := false, narrowed := true }
def FnHullUptoSaid : Prop := fnHullUptoRow.holds Try.pinned (OpenSpec.upto fnHullSpec)

/-- 'laws.FnHullSees', WHERE WHAT IT READS IS OF BULK AT MOST 1048576: true; the input reads as it did. -/
def fnHullSeesUptoRow : OpenClaim := { program := "ytgcebhmenffbjab", sum := "ba5aeb78d327d41b404901ff9043f8fdcbd621f8388bdef7c9b6dd24f1b52e12", func := "loop.example/reliefmaps/laws.FnHullSees", spec := "fnHullSees", unfollowed := true, recurses := true, apart := false, narrowed := true }
def FnHullSeesUptoSaid : Prop := fnHullSeesUptoRow.holds Try.pinned (OpenSpec.upto fnHullSeesSpec)

/-- 'laws.FnBack', WHERE WHAT IT READS IS OF BULK AT MOST 1048576: true; the input reads as it did. -/
def fnBackUptoRow : OpenClaim := { program := "ytgcebhmenffbjab", sum := "ba5aeb78d327d41b404901ff9043f8fdcbd621f8388bdef7c9b6dd24f1b52e12", func := "loop.example/reliefmaps/laws.FnBack", spec := "fnBack", apart := false, narrowed := true }
def FnBackUptoSaid : Prop := fnBackUptoRow.holds Try.pinned (OpenSpec.upto fnBackSpec)

/-- 'laws.FnTilt', WHERE WHAT IT READS IS OF BULK AT MOST 1048576: true; the input reads as it did. -/
def fnTiltUptoRow : OpenClaim := { program := "ytgcebhmenffbjab", sum := "ba5aeb78d327d41b404901ff9043f8fdcbd621f8388bdef7c9b6dd24f1b52e12", func := "loop.example/reliefmaps/laws.FnTilt", spec := "fnTilt", unfollowed := true, recurses := true, apart := false, narrowed := true }
def FnTiltUptoSaid : Prop := fnTiltUptoRow.holds Try.pinned (OpenSpec.upto fnTiltSpec)

/-- 'laws.FnClimb', WHERE WHAT IT READS IS OF BULK AT MOST 1048576: true; the input reads as it did. -/
def fnClimbUptoRow : OpenClaim := { program := "ytgcebhmenffbjab", sum := "ba5aeb78d327d41b404901ff9043f8fdcbd621f8388bdef7c9b6dd24f1b52e12", func := "loop.example/reliefmaps/laws.FnClimb", spec := "fnClimb", apart := false, narrowed := true }
def FnClimbUptoSaid : Prop := fnClimbUptoRow.holds Try.pinned (OpenSpec.upto fnClimbSpec)

/-- 'laws.FnRow', WHERE WHAT IT READS IS OF BULK AT MOST 1048576: true; the input reads as it did. -/
def fnRowUptoRow : OpenClaim := { program := "ytgcebhmenffbjab", sum := "ba5aeb78d327d41b404901ff9043f8fdcbd621f8388bdef7c9b6dd24f1b52e12", func := "loop.example/reliefmaps/laws.FnRow", spec := "fnRow", unfollowed := true, recurses := true, apart := false, narrowed := true }
def FnRowUptoSaid : Prop := fnRowUptoRow.holds Try.pinned (OpenSpec.upto fnRowSpec)

/-- 'laws.FnGridSees', WHERE WHAT IT READS IS OF BULK AT MOST 1048576: true; the input reads as it did. -/
def fnGridSeesUptoRow : OpenClaim := { program := "ytgcebhmenffbjab", sum := "ba5aeb78d327d41b404901ff9043f8fdcbd621f8388bdef7c9b6dd24f1b52e12", func := "loop.example/reliefmaps/laws.FnGridSees", spec := "fnGridSees", unfollowed := true, recurses := true, apart := false, narrowed := true }
def FnGridSeesUptoSaid : Prop := fnGridSeesUptoRow.holds Try.pinned (OpenSpec.upto fnGridSeesSpec)

/-- 'laws.FnExactProfileWatch', WHERE WHAT IT READS IS OF BULK AT MOST 1048576: true; the input reads as it did. -/
def fnExactProfileWatchUptoRow : OpenClaim := { program := "ytgcebhmenffbjab", sum := "ba5aeb78d327d41b404901ff9043f8fdcbd621f8388bdef7c9b6dd24f1b52e12", func := "loop.example/reliefmaps/laws.FnExactProfileWatch", spec := "fnExactProfileWatch", unfollowed := true, recurses := true, apart := false, narrowed := true }
def FnExactProfileWatchUptoSaid : Prop := fnExactProfileWatchUptoRow.holds Try.pinned (OpenSpec.upto fnExactProfileWatchSpec)

end Rows
end Go.Proofs.Ytgcebhmenffbjab
