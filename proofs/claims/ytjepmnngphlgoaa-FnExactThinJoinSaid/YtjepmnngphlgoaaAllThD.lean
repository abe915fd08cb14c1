/- The exact law of ThinJoin. -/
import Derived.Test.YtjepmnngphlgoaaLawThinJoin
import Derived.Test.YtjepmnngphlgoaaThG
import Derived.Test.YtjepmnngphlgoaaThK
namespace Go.Proofs.Ytjepmnngphlgoaa
open Go.RowKit
set_option linter.unusedVariables false

theorem all_FnExactThinJoin (v : Value) (n : Nat) (z : Nat → Int) (u : Value) (m : Nat) (y : Nat → Int) (v2 : Value) (n2 : Nat) (z2 : Nat → Int) (u2 : Value) (m2 : Nat) (y2 : Nat → Int) (w : World) (hv : RdI 0 w.heap.size w v n z) (hu : RdI 0 w.heap.size w u m y) (hv2 : RdI 0 w.heap.size w v2 n2 z2) (hu2 : RdI 0 w.heap.size w u2 m2 y2) :
    Calls Try.prog 13 #[v, u, v2, u2] w (LawPost w) :=
  law_FnExactThinJoin v n z u m y v2 n2 z2 u2 m2 y2 w (jnB n z m y n2 z2 m2 y2) (jnV n z m y n2 z2 m2 y2).length (nsZ (jnV n z m y n2 z2 m2 y2)) hv hu hv2 hu2
    (fun a1 a2 a3 a4 p q r s W hp hq hr hs => (specThinJoin_any p q r s _ _ _ _ _ _ _ _ n m n2 m2 z y z2 y2 W hp hq hr hs (Nat.le_refl _) (Nat.le_refl _) (Nat.le_refl _) (Nat.le_refl _) a1 a2 a3 a4).mono fun _ _ h => NbPost.ls h (jnV_ok n z m y n2 z2 m2 y2))
    (fun a1 a2 a3 a4 p q r s W hp hq hr hs => (implThinJoin_any p q r s _ _ _ _ _ _ _ _ n m n2 m2 z y z2 y2 W hp hq hr hs (Nat.le_refl _) (Nat.le_refl _) (Nat.le_refl _) (Nat.le_refl _) a2 a4).mono fun _ _ h => NbPost.lg h (jnV_ok n z m y n2 z2 m2 y2))
    (fun a1 a2 a3 a4 => Nat.le_trans (jnV_len n z m y n2 z2 m2 y2) (by omega))

end Go.Proofs.Ytjepmnngphlgoaa
