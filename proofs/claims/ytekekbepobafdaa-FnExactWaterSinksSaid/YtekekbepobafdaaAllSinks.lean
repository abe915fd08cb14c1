/- The exact law of WaterSinks, for every grid. -/
import Derived.Test.YtekekbepobafdaaLawSinks
namespace Go.Proofs.Ytekekbepobafdaa
open Go.RowKit
set_option linter.unusedVariables false

theorem all_FnExactWaterSinks (v : Value) (g : G) (w : World) (hv : RdM 0 w.heap.size w v g) :
    Calls Try.prog 5 #[v] w (LawPost w) := by
  by_cases h : g.Valid
  · have hM : g.n * g.len 0 ≤ 49 := mul_le_49 h.1.2 h.2.1.2
    have hlen : g.skV.length ≤ 49 := by rw [G.skV_yes h]; have := skL_len g.n (g.len 0) g.flat (g.n * g.len 0); omega
    exact law_FnExactWaterSinks v g w g.skV.length (ixZ g.skV) hv (fun u W lo hi hu hh => (specWaterSinks_any u lo hi g W hu hh).mono fun _ _ k => k.ls hM)
      (fun u W lo hi hu hh => (implWaterSinks_any u lo hi g W hu hh).mono fun _ _ k => k.lg hM) (by omega)
  · have e := G.skV_no h
    exact law_FnExactWaterSinks v g w ([] : List (Ix 0)).length (ixZ ([] : List (Ix 0))) hv (fun u W lo hi hu hh => (specWaterSinks_any u lo hi g W hu hh).mono fun _ _ k => (k.nil0 e).ls (by omega))
      (fun u W lo hi hu hh => (implWaterSinks_any u lo hi g W hu hh).mono fun _ _ k => (k.nil0 e).lg (by omega)) (by simp)

end Go.Proofs.Ytekekbepobafdaa
