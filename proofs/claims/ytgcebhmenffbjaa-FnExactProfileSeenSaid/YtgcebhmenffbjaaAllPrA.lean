/- The exact laws of ProfileValid, ProfileSees, ProfileSeen and ProfilePairs. -/
import Derived.Test.YtgcebhmenffbjaaLawProfileValid
import Derived.Test.YtgcebhmenffbjaaLawProfileSees
import Derived.Test.YtgcebhmenffbjaaLawProfileSeen
import Derived.Test.YtgcebhmenffbjaaLawProfilePairs
import Derived.Test.YtgcebhmenffbjaaPrU
namespace Go.Proofs.Ytgcebhmenffbjaa
open Go.RowKit
set_option linter.unusedVariables false

theorem all_FnExactProfileValid (v : Value) (n : Nat) (z : Nat → Int) (w : World) (hv : RdI 0 w.heap.size w v n z) :
    Calls Try.prog 3 #[v] w (LawPost w) :=
  law_FnExactProfileValid v n z w (prB n z) hv (fun _ u W lo hi hu hh => (specProfileValid_any u lo hi n z W hu).mono fun _ _ h => SmPost.bl h) (fun _ u W lo hi hu hh => (implProfileValid_any u lo hi n z W hu).mono fun _ _ h => SmPost.bl h)
theorem all_FnExactProfileSees (v : Value) (n : Nat) (z : Nat → Int) (i k : Int) (w : World) (hv : RdI 0 w.heap.size w v n z) (hi : -9223372036854775808 ≤ i ∧ i ≤ 9223372036854775807) (hk : -9223372036854775808 ≤ k ∧ k ≤ 9223372036854775807) :
    Calls Try.prog 4 #[v, .int .i64 i, .int .i64 k] w (LawPost w) :=
  law_FnExactProfileSees v n z i k w (ssB n z i k) hv (fun _ u W lo hi hu hh => specProfileSees_any u lo hi n z i k W hu hh) (fun _ u W lo h hu hh => implProfileSees_any u lo h n z i k W hu hh hi hk)
theorem all_FnExactProfileSeen (v : Value) (n : Nat) (z : Nat → Int) (i : Int) (w : World) (hv : RdI 0 w.heap.size w v n z) (hi : -9223372036854775808 ≤ i ∧ i ≤ 9223372036854775807) :
    Calls Try.prog 5 #[v, .int .i64 i] w (LawPost w) :=
  law_FnExactProfileSeen v n z i w (snV n z i).length (nsZ (snV n z i)) hv (fun hn u W lo hi hu hh => (specProfileSeen_any u lo hi n z i W hu hh).mono fun _ _ h => NsPost.ls h (snV_ok n z i hn))
    (fun hn u W lo h hu hh => (implProfileSeen_any u lo h n z i W hu hh hi).mono fun _ _ h => NsPost.lg h (snV_ok n z i hn)) (fun hn => Nat.le_trans (snV_len n z i) hn)
theorem all_FnExactProfilePairs (v : Value) (n : Nat) (z : Nat → Int) (w : World) (hv : RdI 0 w.heap.size w v n z) :
    Calls Try.prog 6 #[v] w (LawPost w) :=
  law_FnExactProfilePairs v n z w (ppV n z) hv (fun _ u W lo hi hu hh => specProfilePairs_any u lo hi n z W hu hh) (fun _ u W lo hi hu hh => implProfilePairs_any u lo hi n z W hu hh)

end Go.Proofs.Ytgcebhmenffbjaa
