/- FixesValid, FixesDo: the walks with both contracts. -/
import Derived.Test.YtehgbopgfloejaaEa
import Derived.Test.YtehgbopgfloejaaLawFixesValid
import Derived.Test.YtehgbopgfloejaaLawFixesDo
namespace Go.Proofs.Ytehgbopgfloejaa
open Go.RowKit
set_option linter.unusedVariables false

theorem all_FnExactFixesValid (v0 : Value) (g0 : G) (v1 : Value) (n1 : Nat) (z1 : Nat → Int) (w : World) (hv0 : RdM 0 w.heap.size w v0 g0) (hv1 : RdT 0 w.heap.size w v1 n1 z1) : Calls Try.prog 4 #[v0, v1] w (LawPost w) :=
  law_FnExactFixesValid v0 g0 v1 n1 z1 w (fxB g0 n1 z1) hv0 hv1 (fun hb u0 u1 W h0 h1 => specFixesValid_any u0 u1 0 W.heap.size n1 g0 z1 W h0 h1 (Nat.le_refl _) hb) (fun hb u0 u1 W h0 h1 => implFixesValid_any u0 u1 0 W.heap.size n1 g0 z1 W h0 h1 (Nat.le_refl _) hb)
theorem all_FnExactFixesDo (v0 : Value) (g0 : G) (v1 : Value) (n1 : Nat) (z1 : Nat → Int) (w : World) (hv0 : RdM 0 w.heap.size w v0 g0) (hv1 : RdT 0 w.heap.size w v1 n1 z1) : Calls Try.prog 3 #[v0, v1] w (LawPost w) :=
  law_FnExactFixesDo v0 g0 v1 n1 z1 w (fxB g0 n1 z1) (exG g0 n1 z1) hv0 hv1 (fun hb u0 u1 W h0 h1 => specFixesDo_any u0 u1 0 W.heap.size n1 g0 z1 W h0 h1 (Nat.le_refl _) hb) (fun hb u0 u1 W h0 h1 => implFixesDo_any u0 u1 0 W.heap.size n1 g0 z1 W h0 h1 (Nat.le_refl _) hb) (exG_n _ _ _) (exG_l _ _ _)

end Go.Proofs.Ytehgbopgfloejaa
