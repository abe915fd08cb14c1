/- The exact laws of ProfileEye, ProfileHull, ProfileBest and ProfileClimb. -/
import Derived.Test.YtgcebhmenffbjaaLawProfileEye
import Derived.Test.YtgcebhmenffbjaaLawProfileHull
import Derived.Test.YtgcebhmenffbjaaLawProfileBest
import Derived.Test.YtgcebhmenffbjaaLawProfileClimb
import Derived.Test.YtgcebhmenffbjaaPrX
import Derived.Test.YtgcebhmenffbjaaPrY
import Derived.Test.YtgcebhmenffbjaaPrZ
namespace Go.Proofs.Ytgcebhmenffbjaa
open Go.RowKit
set_option linter.unusedVariables false

theorem all_FnExactProfileEye (v : Value) (n : Nat) (z : Nat → Int) (i k : Int) (w : World) (hv : RdI 0 w.heap.size w v n z) (hi : -9223372036854775808 ≤ i ∧ i ≤ 9223372036854775807) (hk : -9223372036854775808 ≤ k ∧ k ≤ 9223372036854775807) :
    Calls Try.prog 7 #[v, .int .i64 i, .int .i64 k] w (LawPost w) :=
  law_FnExactProfileEye v n z i k w (eyV n z i k) hv (fun _ u W lo hi hu hh => specProfileEye_any u lo hi n z i k W hu hh) (fun _ u W lo h hu hh => implProfileEye_any u lo h n z i k W hu hh hi hk)
theorem all_FnExactProfileHull (v : Value) (n : Nat) (z : Nat → Int) (w : World) (hv : RdI 0 w.heap.size w v n z) :
    Calls Try.prog 8 #[v] w (LawPost w) :=
  law_FnExactProfileHull v n z w (prB n z) (hlV n z).length (nsZ (hlV n z)) hv (fun hn u W lo hi hu hh => (specProfileHull_any u lo hi n z W hu hh).mono fun _ _ h => NbPost.ls h (hlV_ok n z))
    (fun hn u W lo h hu hh => (implProfileHull_any u lo h n z W hu hh).mono fun _ _ h => NbPost.lg h (hlV_ok n z)) (fun hn => Nat.le_trans (hlV_len n z) hn)
theorem all_FnExactProfileBest (v : Value) (n : Nat) (z : Nat → Int) (w : World) (hv : RdI 0 w.heap.size w v n z) :
    Calls Try.prog 9 #[v] w (LawPost w) :=
  law_FnExactProfileBest v n z w (beV n z) (prB n z) hv (fun _ u W lo hi hu hh => specProfileBest_any u lo hi n z W hu hh) (fun _ u W lo hi hu hh => implProfileBest_any u lo hi n z W hu hh)
theorem all_FnExactProfileClimb (v : Value) (n : Nat) (z : Nat → Int) (w : World) (hv : RdI 0 w.heap.size w v n z) :
    Calls Try.prog 12 #[v] w (LawPost w) :=
  law_FnExactProfileClimb v n z w (clU n z) (clD n z) (prB n z) hv (fun _ u W lo hi hu hh => specProfileClimb_any u lo hi n z W hu hh) (fun _ u W lo hi hu hh => implProfileClimb_any u lo hi n z W hu hh)

end Go.Proofs.Ytgcebhmenffbjaa
