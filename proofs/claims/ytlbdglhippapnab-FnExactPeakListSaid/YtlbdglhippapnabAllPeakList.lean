/- The exact law of PeakList, for every grid. -/
import Derived.Test.YtlbdglhippapnabLawPeakList
import Derived.Test.YtlbdglhippapnabPkLS
import Derived.Test.YtlbdglhippapnabPkLI
namespace Go.Proofs.Ytlbdglhippapnab
open Go.RowKit
set_option linter.unusedVariables false

theorem all_FnExactPeakList (v : Value) (g : G) (w : World) (hv : RdM 0 w.heap.size w v g) :
    Calls Try.prog 3 #[v] w (LawPost w) := by
  by_cases h : g.Valid
  · have hM : g.n * g.len 0 ≤ 49 := mul_le_49 h.1.2 h.2.1.2
    have hlen : g.rkV.length ≤ 49 := by rw [G.rkV_yes h]; have := rkL_len (R := g.n) (C := g.len 0) (Z := g.flat) (k := g.n * g.len 0); omega
    exact law_FnExactPeakList v g w g.rkV.length (ixZ g.rkV) hv (fun u W lo hi hu hh => (specPeakList_any u lo hi g W hu hh).mono fun _ _ k => k.ls hM)
      (fun u W lo hi hu hh => (implPeakList_any u lo hi g W hu hh).mono fun _ _ k => k.lg hM) (by omega)
  · have e := G.rkV_no h
    exact law_FnExactPeakList v g w ([] : List (Ix 0)).length (ixZ ([] : List (Ix 0))) hv (fun u W lo hi hu hh => (specPeakList_any u lo hi g W hu hh).mono fun _ _ k => (k.nil0 e).ls (by omega))
      (fun u W lo hi hu hh => (implPeakList_any u lo hi g W hu hh).mono fun _ _ k => (k.nil0 e).lg (by omega)) (by simp)

end Go.Proofs.Ytlbdglhippapnab
