/- The exact laws of ThinGreedy and ThinHalf. -/
import Derived.Test.YtjepmnngphlgoaaLawThinGreedy
import Derived.Test.YtjepmnngphlgoaaLawThinHalf
import Derived.Test.YtjepmnngphlgoaaThL
namespace Go.Proofs.Ytjepmnngphlgoaa
open Go.RowKit
set_option linter.unusedVariables false

theorem all_FnExactThinGreedy (v : Value) (n : Nat) (z : Nat → Int) (e : Int) (w : World) (hv : RdI 0 w.heap.size w v n z) (he : -9223372036854775808 ≤ e ∧ e ≤ 9223372036854775807) :
    Calls Try.prog 8 #[v, .int .i64 e] w (LawPost w) :=
  law_FnExactThinGreedy v n z e w (peB n z e) (gdV n z e).length (nsZ (gdV n z e)) hv (fun hn p W hp => (specThinGreedy_any p _ _ n z e W hp (Nat.le_refl _)).mono fun _ _ h => NbPost.ls h (gdV_ok n z e))
    (fun hn p W hp => (implThinGreedy_any p _ _ n z e W hp (Nat.le_refl _)).mono fun _ _ h => NbPost.lg h (gdV_ok n z e)) (fun hn => gdV_small n z e)
theorem all_FnExactThinHalf (v : Value) (n : Nat) (z : Nat → Int) (w : World) (hv : RdI 0 w.heap.size w v n z) :
    Calls Try.prog 11 #[v] w (LawPost w) :=
  law_FnExactThinHalf v n z w (prB n z) (thH n z).length (nsZ (thH n z)) hv (fun hn p W hp => (specThinHalf_any p _ _ n z W hp (Nat.le_refl _)).mono fun _ _ h => NbPost.ls h (thH_ok n z))
    (fun hn p W hp => (implThinHalf_any p _ _ n z W hp (Nat.le_refl _)).mono fun _ _ h => NbPost.lg h (thH_ok n z)) (fun hn => thH_small n z)

end Go.Proofs.Ytjepmnngphlgoaa
