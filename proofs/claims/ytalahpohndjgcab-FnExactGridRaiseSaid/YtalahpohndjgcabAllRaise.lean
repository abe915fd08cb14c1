/- The exact law of GridRaise, for every grid and number. -/
import Derived.Test.YtalahpohndjgcabLawRaise
namespace Go.Proofs.Ytalahpohndjgcab
open Go.RowKit
set_option linter.unusedVariables false

theorem all_FnExactGridRaise (v : Value) (g : G) (k : Int) (w : World) (hv : RdM 0 w.heap.size w v g) (_ : -9223372036854775808 ≤ k ∧ k ≤ 9223372036854775807) :
    Calls Try.prog 8 #[v, .int .i64 k] w (LawPost w) := by
  by_cases h : g.RaiseOk k
  · exact law_FnExactGridRaise v g k w true (raiseG g k) hv (fun u W lo hi hu hh => (specGridRaise_any u lo hi g k W hu hh).mono fun _ _ hp => hp.1 h) (fun u W lo hi hu hh => (implGridRaise_any u lo hi g k W hu hh).mono fun _ _ hp => hp.1 h)
      (by have := h.1.1; simp only [raiseG]; omega) (fun r _ => by have := h.1.2.1; simp only [raiseG]; omega)
  · exact law_FnExactGridRaise v g k w false G0 hv (fun u W lo hi hu hh => (specGridRaise_any u lo hi g k W hu hh).mono fun _ _ hp => hp.2 h) (fun u W lo hi hu hh => (implGridRaise_any u lo hi g k W hu hh).mono fun _ _ hp => hp.2 h)
      (by simp [G0]) (fun r hr => by simp [G0] at hr)

end Go.Proofs.Ytalahpohndjgcab
