/- The exact law of ThinDrop. -/
import Derived.Test.YtjepmnngphlgoaaLawThinDrop
import Derived.Test.YtjepmnngphlgoaaThD
import Derived.Test.YtjepmnngphlgoaaThE
namespace Go.Proofs.Ytjepmnngphlgoaa
open Go.RowKit
set_option linter.unusedVariables false

theorem all_FnExactThinDrop (v : Value) (n : Nat) (z : Nat → Int) (u : Value) (m : Nat) (y : Nat → Int) (k : Int) (w : World) (hv : RdI 0 w.heap.size w v n z) (hu : RdI 0 w.heap.size w u m y) (hk : -9223372036854775808 ≤ k ∧ k ≤ 9223372036854775807) :
    Calls Try.prog 12 #[v, u, .int .i64 k] w (LawPost w) :=
  law_FnExactThinDrop v n z u m y k w (drB n z m y k) (dpV n z m y k).length (nsZ (dpV n z m y k)) hv hu (fun hn hm p q W hp hq => (specThinDrop_any p q _ _ _ _ n m z y k W hp hq (Nat.le_refl _) (Nat.le_refl _) hn hm).mono fun _ _ h => NbPost.ls h (dpV_ok n z m y k))
    (fun hn hm p q W hp hq => (implThinDrop_any p q _ _ _ _ n m z y k W hp hq (Nat.le_refl _) hm).mono fun _ _ h => NbPost.lg h (dpV_ok n z m y k)) (fun hn hm => Nat.le_trans (dpV_len n z m y k) hm)

end Go.Proofs.Ytjepmnngphlgoaa
