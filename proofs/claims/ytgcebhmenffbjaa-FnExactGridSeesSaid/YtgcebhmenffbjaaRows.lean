/-
  No cell of these rows narrows 'for every input' (looked for: loops, veiled, ifaces, maps, wideKeys, modest, calm, conditions, laid).
  DERIVED. THE GIVEN ROWS OF THIS SEAT. 12 by the template 'for every input the law returns true; each argument reads behind the call as it read before'; 0 by the template 'total and deterministic' (their statements: YtgcebhmenffbjaaTotals.lean).
  GIVEN WITH THE SEED: the statements are not yours to turn. If you find one false, say at which input.
  Laid BY PROGRAM, IN A SANDBOX (cutbox-rows.mjs): the forced cells as the released guide's own fill.sh prints them over the translation 4183e358f0990985… (all of the seat's roots in one cut). By AI agents, Wed Nov 11 2026. No macro, syntax, notation, axiom, sorry.
-/
import Derived.Test.YtgcebhmenffbjaaChecked
import GoSem.Claim
import GoSem.ClaimJoined
import GoSem.ClaimMapViews
import Derived.JoinedTies
import Derived.KernelRfl
namespace Go.Proofs.Ytgcebhmenffbjaa
/- THE CELL 'sum', in the pinned program and in every row, IS THE sha256 OF THE DUMP (.gsa) THAT YtgcebhmenffbjaaProg.lean LOADS. Nothing in Lean hashes anything: it is a label: what it is worth is what the hold of that sum in a sandbox is worth. -/
noncomputable def Try.pinned : Pinned := { name := "ytgcebhmenffbjaa", sum := "4183e358f099098558526b636ae690f0b31f4d4cdb7c149114de7d383c11ce82", checked := Try.checked }
namespace Rows
def none {H : Type} : Left H := { results := [], args := [] }

/-- 'laws.FnExactProfileValid': WHATEVER THE INPUT: true; the input reads as it did. -/
def fnExactProfileValidSpec : ChangeSpec := { name := "fnExactProfileValid", fn := fun _ => fun
  | [d] => { results := [.lit (.bool true)], args := [d] }
  | _ => none }
def fnExactProfileValidRow : OpenClaim := { program := "ytgcebhmenffbjaa", sum := "4183e358f099098558526b636ae690f0b31f4d4cdb7c149114de7d383c11ce82", func := "loop.example/reliefmaps/laws.FnExactProfileValid", spec := "fnExactProfileValid", apart := false }
def FnExactProfileValidSaid : Prop := fnExactProfileValidRow.holds Try.pinned (OpenSpec.ofChange fnExactProfileValidSpec)

/-- ITS FALSE NEIGHBOUR: 'it returns false'. Refute it at one input. -/
def fnExactProfileValidWrong : ChangeSpec := { name := "fnExactProfileValid", fn := fun _ => fun
  | [d] => { results := [.lit (.bool false)], args := [d] }
  | _ => none }
def FnExactProfileValidWrongFalsely : Prop := fnExactProfileValidRow.holds Try.pinned (OpenSpec.ofChange fnExactProfileValidWrong)

/-- 'laws.FnExactProfileSees': WHATEVER THE INPUT: true; the input reads as it did. -/
def fnExactProfileSeesSpec : ChangeSpec := { name := "fnExactProfileSees", fn := fun _ => fun
  | [d1, d2, d3] => { results := [.lit (.bool true)], args := [d1, d2, d3] }
  | _ => none }
def fnExactProfileSeesRow : OpenClaim := { program := "ytgcebhmenffbjaa", sum := "4183e358f099098558526b636ae690f0b31f4d4cdb7c149114de7d383c11ce82", func := "loop.example/reliefmaps/laws.FnExactProfileSees", spec := "fnExactProfileSees", unfollowed := true, recurses := true, apart := false }
def FnExactProfileSeesSaid : Prop := fnExactProfileSeesRow.holds Try.pinned (OpenSpec.ofChange fnExactProfileSeesSpec)

/-- ITS FALSE NEIGHBOUR: 'it returns false'. Refute it at one input. -/
def fnExactProfileSeesWrong : ChangeSpec := { name := "fnExactProfileSees", fn := fun _ => fun
  | [d1, d2, d3] => { results := [.lit (.bool false)], args := [d1, d2, d3] }
  | _ => none }
def FnExactProfileSeesWrongFalsely : Prop := fnExactProfileSeesRow.holds Try.pinned (OpenSpec.ofChange fnExactProfileSeesWrong)

/-- 'laws.FnExactProfileSeen': WHATEVER THE INPUT: true; the input reads as it did. -/
def fnExactProfileSeenSpec : ChangeSpec := { name := "fnExactProfileSeen", fn := fun _ => fun
  | [d1, d2] => { results := [.lit (.bool true)], args := [d1, d2] }
  | _ => none }
def fnExactProfileSeenRow : OpenClaim := { program := "ytgcebhmenffbjaa", sum := "4183e358f099098558526b636ae690f0b31f4d4cdb7c149114de7d383c11ce82", func := "loop.example/reliefmaps/laws.FnExactProfileSeen", spec := "fnExactProfileSeen", unfollowed := true, recurses := true, apart := false }
def FnExactProfileSeenSaid : Prop := fnExactProfileSeenRow.holds Try.pinned (OpenSpec.ofChange fnExactProfileSeenSpec)

/-- ITS FALSE NEIGHBOUR: 'it returns false'. Refute it at one input. -/
def fnExactProfileSeenWrong : ChangeSpec := { name := "fnExactProfileSeen", fn := fun _ => fun
  | [d1, d2] => { results := [.lit (.bool false)], args := [d1, d2] }
  | _ => none }
def FnExactProfileSeenWrongFalsely : Prop := fnExactProfileSeenRow.holds Try.pinned (OpenSpec.ofChange fnExactProfileSeenWrong)

/-- 'laws.FnExactProfilePairs': WHATEVER THE INPUT: true; the input reads as it did. -/
def fnExactProfilePairsSpec : ChangeSpec := { name := "fnExactProfilePairs", fn := fun _ => fun
  | [d] => { results := [.lit (.bool true)], args := [d] }
  | _ => none }
def fnExactProfilePairsRow : OpenClaim := { program := "ytgcebhmenffbjaa", sum := "4183e358f099098558526b636ae690f0b31f4d4cdb7c149114de7d383c11ce82", func := "loop.example/reliefmaps/laws.FnExactProfilePairs", spec := "fnExactProfilePairs", unfollowed := true, recurses := true, apart := false }
def FnExactProfilePairsSaid : Prop := fnExactProfilePairsRow.holds Try.pinned (OpenSpec.ofChange fnExactProfilePairsSpec)

/-- ITS FALSE NEIGHBOUR: 'it returns false'. Refute it at one input. -/
def fnExactProfilePairsWrong : ChangeSpec := { name := "fnExactProfilePairs", fn := fun _ => fun
  | [d] => { results := [.lit (.bool false)], args := [d] }
  | _ => none }
def FnExactProfilePairsWrongFalsely : Prop := fnExactProfilePairsRow.holds Try.pinned (OpenSpec.ofChange fnExactProfilePairsWrong)

/-- 'laws.FnExactProfileEye': WHATEVER THE INPUT: true; the input reads as it did. -/
def fnExactProfileEyeSpec : ChangeSpec := { name := "fnExactProfileEye", fn := fun _ => fun
  | [d1, d2, d3] => { results := [.lit (.bool true)], args := [d1, d2, d3] }
  | _ => none }
def fnExactProfileEyeRow : OpenClaim := { program := "ytgcebhmenffbjaa", sum := "4183e358f099098558526b636ae690f0b31f4d4cdb7c149114de7d383c11ce82", func := "loop.example/reliefmaps/laws.FnExactProfileEye", spec := "fnExactProfileEye", unfollowed := true, recurses := true, apart := false }
def FnExactProfileEyeSaid : Prop := fnExactProfileEyeRow.holds Try.pinned (OpenSpec.ofChange fnExactProfileEyeSpec)

/-- ITS FALSE NEIGHBOUR: 'it returns false'. Refute it at one input. -/
def fnExactProfileEyeWrong : ChangeSpec := { name := "fnExactProfileEye", fn := fun _ => fun
  | [d1, d2, d3] => { results := [.lit (.bool false)], args := [d1, d2, d3] }
  | _ => none }
def FnExactProfileEyeWrongFalsely : Prop := fnExactProfileEyeRow.holds Try.pinned (OpenSpec.ofChange fnExactProfileEyeWrong)

/-- 'laws.FnExactProfileHull': WHATEVER THE INPUT: true; the input reads as it did. -/
def fnExactProfileHullSpec : ChangeSpec := { name := "fnExactProfileHull", fn := fun _ => fun
  | [d] => { results := [.lit (.bool true)], args := [d] }
  | _ => none }
def fnExactProfileHullRow : OpenClaim := { program := "ytgcebhmenffbjaa", sum := "4183e358f099098558526b636ae690f0b31f4d4cdb7c149114de7d383c11ce82", func := "loop.example/reliefmaps/laws.FnExactProfileHull", spec := "fnExactProfileHull", unfollowed := true, recurses := true, apart := false }
def FnExactProfileHullSaid : Prop := fnExactProfileHullRow.holds Try.pinned (OpenSpec.ofChange fnExactProfileHullSpec)

/-- ITS FALSE NEIGHBOUR: 'it returns false'. Refute it at one input. -/
def fnExactProfileHullWrong : ChangeSpec := { name := "fnExactProfileHull", fn := fun _ => fun
  | [d] => { results := [.lit (.bool false)], args := [d] }
  | _ => none }
def FnExactProfileHullWrongFalsely : Prop := fnExactProfileHullRow.holds Try.pinned (OpenSpec.ofChange fnExactProfileHullWrong)

/-- 'laws.FnExactProfileBest': WHATEVER THE INPUT: true; the input reads as it did. -/
def fnExactProfileBestSpec : ChangeSpec := { name := "fnExactProfileBest", fn := fun _ => fun
  | [d] => { results := [.lit (.bool true)], args := [d] }
  | _ => none }
def fnExactProfileBestRow : OpenClaim := { program := "ytgcebhmenffbjaa", sum := "4183e358f099098558526b636ae690f0b31f4d4cdb7c149114de7d383c11ce82", func := "loop.example/reliefmaps/laws.FnExactProfileBest", spec := "fnExactProfileBest", unfollowed := true, recurses := true, apart := false }
def FnExactProfileBestSaid : Prop := fnExactProfileBestRow.holds Try.pinned (OpenSpec.ofChange fnExactProfileBestSpec)

/-- ITS FALSE NEIGHBOUR: 'it returns false'. Refute it at one input. -/
def fnExactProfileBestWrong : ChangeSpec := { name := "fnExactProfileBest", fn := fun _ => fun
  | [d] => { results := [.lit (.bool false)], args := [d] }
  | _ => none }
def FnExactProfileBestWrongFalsely : Prop := fnExactProfileBestRow.holds Try.pinned (OpenSpec.ofChange fnExactProfileBestWrong)

/-- 'laws.FnExactProfileBack': WHATEVER THE INPUT: true; the input reads as it did. -/
def fnExactProfileBackSpec : ChangeSpec := { name := "fnExactProfileBack", fn := fun _ => fun
  | [d] => { results := [.lit (.bool true)], args := [d] }
  | _ => none }
def fnExactProfileBackRow : OpenClaim := { program := "ytgcebhmenffbjaa", sum := "4183e358f099098558526b636ae690f0b31f4d4cdb7c149114de7d383c11ce82", func := "loop.example/reliefmaps/laws.FnExactProfileBack", spec := "fnExactProfileBack", apart := false }
def FnExactProfileBackSaid : Prop := fnExactProfileBackRow.holds Try.pinned (OpenSpec.ofChange fnExactProfileBackSpec)

/-- ITS FALSE NEIGHBOUR: 'it returns false'. Refute it at one input. -/
def fnExactProfileBackWrong : ChangeSpec := { name := "fnExactProfileBack", fn := fun _ => fun
  | [d] => { results := [.lit (.bool false)], args := [d] }
  | _ => none }
def FnExactProfileBackWrongFalsely : Prop := fnExactProfileBackRow.holds Try.pinned (OpenSpec.ofChange fnExactProfileBackWrong)

/-- 'laws.FnExactProfileTilt': WHATEVER THE INPUT: true; the input reads as it did. -/
def fnExactProfileTiltSpec : ChangeSpec := { name := "fnExactProfileTilt", fn := fun _ => fun
  | [d1, d2] => { results := [.lit (.bool true)], args := [d1, d2] }
  | _ => none }
def fnExactProfileTiltRow : OpenClaim := { program := "ytgcebhmenffbjaa", sum := "4183e358f099098558526b636ae690f0b31f4d4cdb7c149114de7d383c11ce82", func := "loop.example/reliefmaps/laws.FnExactProfileTilt", spec := "fnExactProfileTilt", apart := false }
def FnExactProfileTiltSaid : Prop := fnExactProfileTiltRow.holds Try.pinned (OpenSpec.ofChange fnExactProfileTiltSpec)

/-- ITS FALSE NEIGHBOUR: 'it returns false'. Refute it at one input. -/
def fnExactProfileTiltWrong : ChangeSpec := { name := "fnExactProfileTilt", fn := fun _ => fun
  | [d1, d2] => { results := [.lit (.bool false)], args := [d1, d2] }
  | _ => none }
def FnExactProfileTiltWrongFalsely : Prop := fnExactProfileTiltRow.holds Try.pinned (OpenSpec.ofChange fnExactProfileTiltWrong)

/-- 'laws.FnExactProfileClimb': WHATEVER THE INPUT: true; the input reads as it did. -/
def fnExactProfileClimbSpec : ChangeSpec := { name := "fnExactProfileClimb", fn := fun _ => fun
  | [d] => { results := [.lit (.bool true)], args := [d] }
  | _ => none }
def fnExactProfileClimbRow : OpenClaim := { program := "ytgcebhmenffbjaa", sum := "4183e358f099098558526b636ae690f0b31f4d4cdb7c149114de7d383c11ce82", func := "loop.example/reliefmaps/laws.FnExactProfileClimb", spec := "fnExactProfileClimb", apart := false }
def FnExactProfileClimbSaid : Prop := fnExactProfileClimbRow.holds Try.pinned (OpenSpec.ofChange fnExactProfileClimbSpec)

/-- ITS FALSE NEIGHBOUR: 'it returns false'. Refute it at one input. -/
def fnExactProfileClimbWrong : ChangeSpec := { name := "fnExactProfileClimb", fn := fun _ => fun
  | [d] => { results := [.lit (.bool false)], args := [d] }
  | _ => none }
def FnExactProfileClimbWrongFalsely : Prop := fnExactProfileClimbRow.holds Try.pinned (OpenSpec.ofChange fnExactProfileClimbWrong)

/-- 'laws.FnExactProfileRow': WHATEVER THE INPUT: true; the input reads as it did. -/
def fnExactProfileRowSpec : ChangeSpec := { name := "fnExactProfileRow", fn := fun _ => fun
  | [d1, d2] => { results := [.lit (.bool true)], args := [d1, d2] }
  | _ => none }
def fnExactProfileRowRow : OpenClaim := { program := "ytgcebhmenffbjaa", sum := "4183e358f099098558526b636ae690f0b31f4d4cdb7c149114de7d383c11ce82", func := "loop.example/reliefmaps/laws.FnExactProfileRow", spec := "fnExactProfileRow", unfollowed := true, recurses := true, apart := false }
def FnExactProfileRowSaid : Prop := fnExactProfileRowRow.holds Try.pinned (OpenSpec.ofChange fnExactProfileRowSpec)

/-- ITS FALSE NEIGHBOUR: 'it returns false'. Refute it at one input. -/
def fnExactProfileRowWrong : ChangeSpec := { name := "fnExactProfileRow", fn := fun _ => fun
  | [d1, d2] => { results := [.lit (.bool false)], args := [d1, d2] }
  | _ => none }
def FnExactProfileRowWrongFalsely : Prop := fnExactProfileRowRow.holds Try.pinned (OpenSpec.ofChange fnExactProfileRowWrong)

/-- 'laws.FnExactGridSees': WHATEVER THE INPUT: true; the input reads as it did. -/
def fnExactGridSeesSpec : ChangeSpec := { name := "fnExactGridSees", fn := fun _ => fun
  | [d] => { results := [.lit (.bool true)], args := [d] }
  | _ => none }
def fnExactGridSeesRow : OpenClaim := { program := "ytgcebhmenffbjaa", sum := "4183e358f099098558526b636ae690f0b31f4d4cdb7c149114de7d383c11ce82", func := "loop.example/reliefmaps/laws.FnExactGridSees", spec := "fnExactGridSees", unfollowed := true, recurses := true, apart := false }
def FnExactGridSeesSaid : Prop := fnExactGridSeesRow.holds Try.pinned (OpenSpec.ofChange fnExactGridSeesSpec)

/-- ITS FALSE NEIGHBOUR: 'it returns false'. Refute it at one input. -/
def fnExactGridSeesWrong : ChangeSpec := { name := "fnExactGridSees", fn := fun _ => fun
  | [d] => { results := [.lit (.bool false)], args := [d] }
  | _ => none }
def FnExactGridSeesWrongFalsely : Prop := fnExactGridSeesRow.holds Try.pinned (OpenSpec.ofChange fnExactGridSeesWrong)

/- THE SECOND FORM. 'bulk': how many values and letters a reading holds, each counted each time it is reached (what is shared counts as often as it is met; a slice's spare places count too). A statement '..UptoSaid' is the law's where the arguments, and the package variables that the reading takes, are together of bulk at most 1048576: NARROWER than '..Said'. Prove '..Said' where nothing that the law and all that it calls make is longer than what came in: it says more and counts as full. Else prove '..UptoSaid'. A law counts once. -/
mutual
def uptoBulk {H : Type} : DataW H → Nat
  | .lit (.string bytes) => bytes.length + 1
  | .lit _ => 1
  | .nil => 1
  | .ptr d => uptoBulk d + 1
  | .slice elems spare => uptoBulkAll elems + uptoBulkAll spare + 1
  | .agg parts => uptoBulkAll parts + 1
  | .iface _ d => uptoBulk d + 1
  | .map entries => uptoBulkEntries entries + 1
  | .held _ => 1
def uptoBulkAll {H : Type} : List (DataW H) → Nat
  | [] => 0
  | d :: r => uptoBulk d + uptoBulkAll r
def uptoBulkEntries {H : Type} : List (Lit × DataW H) → Nat
  | [] => 0
  | x :: r => uptoBulkEntry x + uptoBulkEntries r
def uptoBulkEntry {H : Type} : Lit × DataW H → Nat
  | (.string bytes, d) => bytes.length + uptoBulk d + 1
  | (_, d) => uptoBulk d + 1
 end
def uptoSmall : (H : Type) → List (DataW H) → Bool := fun _ ds => decide (uptoBulkAll ds ≤ 1048576)
def OpenSpec.upto (s : _root_.Go.ChangeSpec) : _root_.Go.OpenSpec := { _root_.Go.OpenSpec.ofChange s with cond := some uptoSmall }

/-- 'laws.FnExactProfileValid', WHERE WHAT IT READS IS OF BULK AT MOST 1048576: true; the input reads as it did. -/
def fnExactProfileValidUptoRow : OpenClaim := { program := "ytgcebhmenffbjaa", sum := "4183e358f099098558526b636ae690f0b31f4d4cdb7c149114de7d383c11ce82", func := "loop.example/reliefmaps/laws.FnExactProfileValid", spec := "fnExactProfileValid", apart := false, narrowed := true }
def FnExactProfileValidUptoSaid : Prop := fnExactProfileValidUptoRow.holds Try.pinned (OpenSpec.upto fnExactProfileValidSpec)

/-- 'laws.FnExactProfileSees', WHERE WHAT IT READS IS OF BULK AT MOST 1048576: true; the input reads as it did. -/
def fnExactProfileSeesUptoRow : OpenClaim := { program := "ytgcebhmenffbjaa", sum := "4183e358f099098558526b636ae690f0b31f4d4cdb7c149114de7d383c11ce82", func := "loop.example/reliefmaps/laws.FnExactProfileSees", spec := "fnExactProfileSees", unfollowed := true, recurses := true, apart := false, narrowed := true }
def FnExactProfileSeesUptoSaid : Prop := fnExactProfileSeesUptoRow.holds Try.pinned (OpenSpec.upto fnExactProfileSeesSpec)

/-- 'laws.FnExactProfileSeen', WHERE WHAT IT READS IS OF BULK AT MOST 1048576: true; the input reads as it did. -/
def fnExactProfileSeenUptoRow : OpenClaim := { program := "ytgcebhmenffbjaa", sum := "4183e358f099098558526b636ae690f0b31f4d4cdb7c149114de7d383c11ce82", func := "loop.example/reliefmaps/laws.FnExactProfileSeen", spec := "fnExactProfileSeen", unfollowed := true, recurses := true, apart := false, narrowed := true }
def FnExactProfileSeenUptoSaid : Prop := fnExactProfileSeenUptoRow.holds Try.pinned (OpenSpec.upto fnExactProfileSeenSpec)

/-- 'laws.FnExactProfilePairs', WHERE WHAT IT READS IS OF BULK AT MOST 1048576: true; the input reads as it did. -/
def fnExactProfilePairsUptoRow : OpenClaim := { program := "ytgcebhmenffbjaa", sum := "4183e358f099098558526b636ae690f0b31f4d4cdb7c149114de7d383c11ce82", func := "loop.example/reliefmaps/laws.FnExactProfilePairs", spec := "fnExactProfilePairs", unfollowed := true, recurses := true, apart := false, narrowed := true }
def FnExactProfilePairsUptoSaid : Prop := fnExactProfilePairsUptoRow.holds Try.pinned (OpenSpec.upto fnExactProfilePairsSpec)

/-- 'laws.FnExactProfileEye', WHERE WHAT IT READS IS OF BULK AT MOST 1048576: true; the input reads as it did. -/
def fnExactProfileEyeUptoRow : OpenClaim := { program := "ytgcebhmenffbjaa", sum := "4183e358f099098558526b636ae690f0b31f4d4cdb7c149114de7d383c11ce82", func := "loop.example/reliefmaps/laws.FnExactProfileEye", spec := "fnExactProfileEye", unfollowed := true, recurses := true, apart := false, narrowed := true }
def FnExactProfileEyeUptoSaid : Prop := fnExactProfileEyeUptoRow.holds Try.pinned (OpenSpec.upto fnExactProfileEyeSpec)

/-- 'laws.FnExactProfileHull', WHERE WHAT IT READS IS OF BULK AT MOST 1048576: true; the input reads as it did. -/
def fnExactProfileHullUptoRow : OpenClaim := { program := "ytgcebhmenffbjaa", sum := "4183e358f099098558526b636ae690f0b31f4d4cdb7c149114de7d383c11ce82", func := "loop.example/reliefmaps/laws.FnExactProfileHull", spec := "fnExactProfileHull", unfollowed := true, recurses := true, apart := false, narrowed := true }
def FnExactProfileHullUptoSaid : Prop := fnExactProfileHullUptoRow.holds Try.pinned (OpenSpec.upto fnExactProfileHullSpec)

/-- 'laws.FnExactProfileBest', WHERE WHAT IT READS IS OF BULK AT MOST 1048576: true; the input reads as it did. -/
def fnExactProfileBestUptoRow : OpenClaim := { program := "ytgcebhmenffbjaa", sum := "4183e358f099098558526b636ae690f0b31f4d4cdb7c149114de7d383c11ce82", func := "loop.example/reliefmaps/laws.FnExactProfileBest", spec := "fnExactProfileBest", unfollowed := true, recurses := true, apart := false, narrowed := true }
def FnExactProfileBestUptoSaid : Prop := fnExactProfileBestUptoRow.holds Try.pinned (OpenSpec.upto fnExactProfileBestSpec)

/-- 'laws.FnExactProfileBack', WHERE WHAT IT READS IS OF BULK AT MOST 1048576: true; the input reads as it did. -/
def fnExactProfileBackUptoRow : OpenClaim := { program := "ytgcebhmenffbjaa", sum := "4183e358f099098558526b636ae690f0b31f4d4cdb7c149114de7d383c11ce82", func := "loop.example/reliefmaps/laws.FnExactProfileBack", spec := "fnExactProfileBack", apart := false, narrowed := true }
def FnExactProfileBackUptoSaid : Prop := fnExactProfileBackUptoRow.holds Try.pinned (OpenSpec.upto fnExactProfileBackSpec)

/-- 'laws.FnExactProfileTilt', WHERE WHAT IT READS IS OF BULK AT MOST 1048576: true; the input reads as it did. -/
def fnExactProfileTiltUptoRow : OpenClaim := { program := "ytgcebhmenffbjaa", sum := "4183e358f099098558526b636ae690f0b31f4d4cdb7c149114de7d383c11ce82", func := "loop.example/reliefmaps/laws.FnExactProfileTilt", spec := "fnExactProfileTilt", apart := false, narrowed := true }
def FnExactProfileTiltUptoSaid : Prop := fnExactProfileTiltUptoRow.holds Try.pinned (OpenSpec.upto fnExactProfileTiltSpec)

/-- 'laws.FnExactProfileClimb', WHERE WHAT IT READS IS OF BULK AT MOST 1048576: true; the input reads as it did. -/
def fnExactProfileClimbUptoRow : OpenClaim := { program := "ytgcebhmenffbjaa", sum := "4183e358f099098558526b636ae690f0b31f4d4cdb7c149114de7d383c11ce82", func := "loop.example/reliefmaps/laws.FnExactProfileClimb", spec := "fnExactProfileClimb", apart := false, narrowed := true }
def FnExactProfileClimbUptoSaid : Prop := fnExactProfileClimbUptoRow.holds Try.pinned (OpenSpec.upto fnExactProfileClimbSpec)

/-- 'laws.FnExactProfileRow', WHERE WHAT IT READS IS OF BULK AT MOST 1048576: true; the input reads as it did. -/
def fnExactProfileRowUptoRow : OpenClaim := { program := "ytgcebhmenffbjaa", sum := "4183e358f099098558526b636ae690f0b31f4d4cdb7c149114de7d383c11ce82", func := "loop.example/reliefmaps/laws.FnExactProfileRow", spec := "fnExactProfileRow", unfollowed := true, recurses := true, apart := false, narrowed := true }
def FnExactProfileRowUptoSaid : Prop := fnExactProfileRowUptoRow.holds Try.pinned (OpenSpec.upto fnExactProfileRowSpec)

/-- 'laws.FnExactGridSees', WHERE WHAT IT READS IS OF BULK AT MOST 1048576: true; the input reads as it did. -/
def fnExactGridSeesUptoRow : OpenClaim := { program := "ytgcebhmenffbjaa", sum := "4183e358f099098558526b636ae690f0b31f4d4cdb7c149114de7d383c11ce82", func := "loop.example/reliefmaps/laws.FnExactGridSees", spec := "fnExactGridSees", unfollowed := true, recurses := true, apart := false, narrowed := true }
def FnExactGridSeesUptoSaid : Prop := fnExactGridSeesUptoRow.holds Try.pinned (OpenSpec.upto fnExactGridSeesSpec)

end Rows
end Go.Proofs.Ytgcebhmenffbjaa
