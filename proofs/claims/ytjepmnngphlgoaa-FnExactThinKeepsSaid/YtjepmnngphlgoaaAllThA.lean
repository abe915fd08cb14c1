/- The exact laws of ThinValid, ThinError, ThinKeeps and ThinProfile. -/
import Derived.Test.YtjepmnngphlgoaaLawThinValid
import Derived.Test.YtjepmnngphlgoaaLawThinError
import Derived.Test.YtjepmnngphlgoaaLawThinKeeps
import Derived.Test.YtjepmnngphlgoaaLawThinProfile
import Derived.Test.YtjepmnngphlgoaaThJ
namespace Go.Proofs.Ytjepmnngphlgoaa
open Go.RowKit
set_option linter.unusedVariables false

theorem all_FnExactThinValid (v : Value) (n : Nat) (z : Nat → Int) (u : Value) (m : Nat) (y : Nat → Int) (w : World) (hv : RdI 0 w.heap.size w v n z) (hu : RdI 0 w.heap.size w u m y) :
    Calls Try.prog 3 #[v, u] w (LawPost w) :=
  law_FnExactThinValid v n z u m y w (thB n z m y) hv hu (fun hn hm p q W hp hq => (specThinValid_any p q _ _ _ _ n m z y W hp hq hn hm).mono fun _ _ h => SmPost.bl h) (fun hn hm p q W hp hq => implThinValid_any p q _ _ _ _ n m z y W hp hq (Nat.le_refl _) hm)
theorem all_FnExactThinError (v : Value) (n : Nat) (z : Nat → Int) (u : Value) (m : Nat) (y : Nat → Int) (w : World) (hv : RdI 0 w.heap.size w v n z) (hu : RdI 0 w.heap.size w u m y) :
    Calls Try.prog 4 #[v, u] w (LawPost w) :=
  law_FnExactThinError v n z u m y w (thE n z m y) hv hu (fun hn hm p q W hp hq => specThinError_any p q _ _ _ _ n m z y W hp hq (Nat.le_refl _) (Nat.le_refl _) hn hm) (fun hn hm p q W hp hq => implThinError_any p q _ _ _ _ n m z y W hp hq (Nat.le_refl _) (Nat.le_refl _) hm)
theorem all_FnExactThinKeeps (v : Value) (n : Nat) (z : Nat → Int) (u : Value) (m : Nat) (y : Nat → Int) (e : Int) (w : World) (hv : RdI 0 w.heap.size w v n z) (hu : RdI 0 w.heap.size w u m y) (he : -9223372036854775808 ≤ e ∧ e ≤ 9223372036854775807) :
    Calls Try.prog 5 #[v, u, .int .i64 e] w (LawPost w) :=
  law_FnExactThinKeeps v n z u m y e w (thK n z m y e) hv hu (fun hn hm p q W hp hq => specThinKeeps_any p q _ _ _ _ n m z y e W hp hq (Nat.le_refl _) (Nat.le_refl _) hn hm) (fun hn hm p q W hp hq => implThinKeeps_any p q _ _ _ _ n m z y e W hp hq (Nat.le_refl _) (Nat.le_refl _) hm)
theorem all_FnExactThinProfile (v : Value) (n : Nat) (z : Nat → Int) (u : Value) (m : Nat) (y : Nat → Int) (w : World) (hv : RdI 0 w.heap.size w v n z) (hu : RdI 0 w.heap.size w u m y) :
    Calls Try.prog 10 #[v, u] w (LawPost w) :=
  law_FnExactThinProfile v n z u m y w (thB n z m y) (thP n z m y).length (nsZ (thP n z m y)) hv hu (fun hn hm p q W hp hq => (specThinProfile_any p q _ _ _ _ n m z y W hp hq (Nat.le_refl _) (Nat.le_refl _) hn hm).mono fun _ _ h => NbPost.ls h (thP_ok n z m y))
    (fun hn hm p q W hp hq => (implThinProfile_any p q _ _ _ _ n m z y W hp hq (Nat.le_refl _) (Nat.le_refl _) hm).mono fun _ _ h => NbPost.lg h (thP_ok n z m y)) (fun hn hm => Nat.le_trans (thP_len n z m y) hm)

end Go.Proofs.Ytjepmnngphlgoaa
