/- FixesMake, FixesShort, EditionFar: the walks with both contracts. -/
import Derived.Test.YtehgbopgfloejaaLawFixesMake
import Derived.Test.YtehgbopgfloejaaLawFixesShort
import Derived.Test.YtehgbopgfloejaaLawEditionFar
namespace Go.Proofs.Ytehgbopgfloejaa
open Go.RowKit
set_option linter.unusedVariables false

theorem all_FnExactFixesMake (v0 : Value) (g0 : G) (v1 : Value) (g1 : G) (w : World) (hv0 : RdM 0 w.heap.size w v0 g0) (hv1 : RdM 0 w.heap.size w v1 g1) : Calls Try.prog 6 #[v0, v1] w (LawPost w) :=
  law_FnExactFixesMake v0 g0 v1 g1 w (akB g0 g1) (mkE g0 g1).length (fzZ (mkE g0 g1)) hv0 hv1
    (fun u0 u1 W h0 h1 => (specFixesMake_any u0 u1 0 W.heap.size g0 g1 W h0 h1 (Nat.le_refl _)).mono (fun e w' h => h.ts (mkE_range _ _))) (fun u0 u1 W h0 h1 => (implFixesMake_any u0 u1 0 W.heap.size g0 g1 W h0 h1 (Nat.le_refl _)).mono (fun e w' h => h.tg (mkE_range _ _)))
    (by have := mkE_len g0 g1; omega)
theorem all_FnExactFixesShort (v0 : Value) (g0 : G) (v1 : Value) (n1 : Nat) (z1 : Nat → Int) (w : World) (hv0 : RdM 0 w.heap.size w v0 g0) (hv1 : RdT 0 w.heap.size w v1 n1 z1) : Calls Try.prog 7 #[v0, v1] w (LawPost w) :=
  law_FnExactFixesShort v0 g0 v1 n1 z1 w (fxB g0 n1 z1) (shE g0 n1 z1).length (fzZ (shE g0 n1 z1)) hv0 hv1
    (fun hb u0 u1 W h0 h1 => (specFixesShort_any u0 u1 0 W.heap.size n1 g0 z1 W h0 h1 (Nat.le_refl _) hb).mono (fun e w' h => h.ts (shE_range _ _ _))) (fun hb u0 u1 W h0 h1 => (implFixesShort_any u0 u1 0 W.heap.size n1 g0 z1 W h0 h1 (Nat.le_refl _) hb).mono (fun e w' h => h.tg (shE_range _ _ _)))
    (fun _ => by have := shE_len g0 n1 z1; omega)
theorem all_FnExactEditionFar (v0 : Value) (g0 : G) (v1 : Value) (g1 : G) (w : World) (hv0 : RdM 0 w.heap.size w v0 g0) (hv1 : RdM 0 w.heap.size w v1 g1) : Calls Try.prog 14 #[v0, v1] w (LawPost w) :=
  law_FnExactEditionFar v0 g0 v1 g1 w (faE g0 g1) hv0 hv1 (fun u0 u1 W h0 h1 => specEditionFar_any u0 u1 0 W.heap.size g0 g1 W h0 h1 (Nat.le_refl _)) (fun u0 u1 W h0 h1 => implEditionFar_any u0 u1 0 W.heap.size g0 g1 W h0 h1 (Nat.le_refl _))

end Go.Proofs.Ytehgbopgfloejaa
