/- FixesBack: the walk with both contracts. -/
import Derived.Test.YtehgbopgfloejaaLawFixesBack
namespace Go.Proofs.Ytehgbopgfloejaa
open Go.RowKit
set_option linter.unusedVariables false

theorem all_FnExactFixesBack (v0 : Value) (g0 : G) (v1 : Value) (n1 : Nat) (z1 : Nat → Int) (w : World) (hv0 : RdM 0 w.heap.size w v0 g0) (hv1 : RdT 0 w.heap.size w v1 n1 z1) : Calls Try.prog 5 #[v0, v1] w (LawPost w) :=
  law_FnExactFixesBack v0 g0 v1 n1 z1 w (fxB g0 n1 z1) (bkE g0 n1 z1).length (fzZ (bkE g0 n1 z1)) hv0 hv1
    (fun hb u0 u1 W h0 h1 => (specFixesBack_any u0 u1 0 W.heap.size n1 g0 z1 W h0 h1 (Nat.le_refl _) hb).mono (fun e w' h => h.ts (bkE_range _ _ _))) (fun hb u0 u1 W h0 h1 => (implFixesBack_any u0 u1 0 W.heap.size n1 g0 z1 W h0 h1 (Nat.le_refl _) hb).mono (fun e w' h => h.tg (bkE_range _ _ _)))
    (fun _ => by have := bkE_len g0 n1 z1; omega)

end Go.Proofs.Ytehgbopgfloejaa
