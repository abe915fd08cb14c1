/- The exact laws of ProfileBack and ProfileTilt. -/
import Derived.Test.YtgcebhmenffbjaaLawProfileBack
import Derived.Test.YtgcebhmenffbjaaLawProfileTilt
import Derived.Test.YtgcebhmenffbjaaPrTi
namespace Go.Proofs.Ytgcebhmenffbjaa
open Go.RowKit
set_option linter.unusedVariables false

theorem all_FnExactProfileBack (v : Value) (n : Nat) (z : Nat → Int) (w : World) (hv : RdI 0 w.heap.size w v n z) :
    Calls Try.prog 10 #[v] w (LawPost w) :=
  law_FnExactProfileBack v n z w (prB n z) (bkN n z) (revZ (n - 1) z) hv (fun hn u W lo hi hu hh => specProfileBack_any u lo hi n z W hu hh)
    (fun hn u W lo h hu hh => implProfileBack_any u lo h n z W hu hh) (fun hn => Nat.le_trans (bkN_le n z) hn)
theorem all_FnExactProfileTilt (v : Value) (n : Nat) (z : Nat → Int) (t : Int) (w : World) (hv : RdI 0 w.heap.size w v n z) (_ : -9223372036854775808 ≤ t ∧ t ≤ 9223372036854775807) :
    Calls Try.prog 11 #[v, .int .i64 t] w (LawPost w) :=
  law_FnExactProfileTilt v n z t w (tlB n z t) (tlN n z t) (tilZ z t) hv (fun hn u W lo hi hu hh => specProfileTilt_any u lo hi n z t W hu hh)
    (fun hn u W lo h hu hh => implProfileTilt_any u lo h n z t W hu hh) (fun hn => Nat.le_trans (tlN_le n z t) hn)

end Go.Proofs.Ytgcebhmenffbjaa
