/- FixesAre: the walk with both contracts. -/
import Derived.Test.YtehgbopgfloejaaLawFixesAre
namespace Go.Proofs.Ytehgbopgfloejaa
open Go.RowKit
set_option linter.unusedVariables false

theorem all_FnExactFixesAre (v0 : Value) (g0 : G) (v1 : Value) (n1 : Nat) (z1 : Nat → Int) (w : World) (hv0 : RdM 0 w.heap.size w v0 g0) (hv1 : RdT 0 w.heap.size w v1 n1 z1) : Calls Try.prog 8 #[v0, v1] w (LawPost w) :=
  law_FnExactFixesAre v0 g0 v1 n1 z1 w (areB g0 n1 z1) hv0 hv1 (fun hb u0 u1 W h0 h1 => specFixesAre_any u0 u1 0 W.heap.size n1 g0 z1 W h0 h1 (Nat.le_refl _) hb) (fun hb u0 u1 W h0 h1 => implFixesAre_any u0 u1 0 W.heap.size n1 g0 z1 W h0 h1 (Nat.le_refl _) hb)

end Go.Proofs.Ytehgbopgfloejaa
