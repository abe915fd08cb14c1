/- The exact law of PitList, for every grid. -/
import Derived.Test.YtlbdglhippapnabLawPitList
import Derived.Test.YtlbdglhippapnabPit
namespace Go.Proofs.Ytlbdglhippapnab
open Go.RowKit
set_option linter.unusedVariables false

theorem all_FnExactPitList (v : Value) (g : G) (w : World) (hv : RdM 0 w.heap.size w v g) :
    Calls Try.prog 4 #[v] w (LawPost w) := by
  by_cases h : g.Valid
  · have hM : (invertG g).n * (invertG g).len 0 ≤ 49 := mul_le_49 h.1.2 h.2.1.2
    have hlen : (invertG g).rkV.length ≤ 49 := by rw [G.rkV_yes (invert_valid h)]; have := rkL_len (R := (invertG g).n) (C := (invertG g).len 0) (Z := (invertG g).flat) (k := (invertG g).n * (invertG g).len 0); omega
    exact law_FnExactPitList v g w (invertG g).rkV.length (ixZ (invertG g).rkV) hv (fun u W lo hi hu hh => (specPitList_yes u lo hi g W hu hh h).mono fun _ _ k => k.ls hM)
      (fun u W lo hi hu hh => (implPitList_yes u lo hi g W hu hh h).mono fun _ _ k => k.lg hM) (by omega)
  · exact law_FnExactPitList v g w ([] : List (Ix 0)).length (ixZ ([] : List (Ix 0))) hv (fun u W lo hi hu hh => (specPitList_no u lo hi g W hu hh h).mono fun _ _ k => k.ls (by omega))
      (fun u W lo hi hu hh => (implPitList_no u lo hi g W hu hh h).mono fun _ _ k => k.lg (by omega)) (by simp)

end Go.Proofs.Ytlbdglhippapnab
