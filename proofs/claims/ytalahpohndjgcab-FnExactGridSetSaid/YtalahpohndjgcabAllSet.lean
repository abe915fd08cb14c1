/- The exact law of GridSet, for every grid. -/
import Derived.Test.YtalahpohndjgcabLawSet
namespace Go.Proofs.Ytalahpohndjgcab
open Go.RowKit
set_option linter.unusedVariables false

theorem all_FnExactGridSet (v : Value) (g : G) (r c x : Int) (w : World) (hv : RdM 0 w.heap.size w v g) (_ : -9223372036854775808 ≤ r ∧ r ≤ 9223372036854775807) (_ : -9223372036854775808 ≤ c ∧ c ≤ 9223372036854775807) (_ : -9223372036854775808 ≤ x ∧ x ≤ 9223372036854775807) :
    Calls Try.prog 5 #[v, .int .i64 r, .int .i64 c, .int .i64 x] w (LawPost w) := by
  by_cases h : g.SetOk r c x
  · exact law_FnExactGridSet v g r c x w true (g.upd r.toNat c.toNat x) hv (fun u W lo hi hu hh => specGridSet_yes u lo hi g r c x W hu hh h) (fun u W lo hi hu hh => implGridSet_yes u lo hi g r c x W hu hh h)
      (by have := h.1.1.1; simp only [G.upd]; omega) (fun i hi => by have := (h.1.1.2.2 i hi).1; have := h.1.1.2.1; simp only [G.upd]; omega)
  · exact law_FnExactGridSet v g r c x w false G0 hv (fun u W lo hi hu hh => specGridSet_no u lo hi g r c x W hu hh h) (fun u W lo hi hu hh => implGridSet_no u lo hi g r c x W hu hh h)
      (by simp [G0]) (fun r hr => by simp [G0] at hr)

end Go.Proofs.Ytalahpohndjgcab
