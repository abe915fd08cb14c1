/- The exact law of PeakMost, for every grid and number. -/
import Derived.Test.YtlbdglhippapnabLawPeakMost
import Derived.Test.YtlbdglhippapnabMsJ
namespace Go.Proofs.Ytlbdglhippapnab
open Go.RowKit
set_option linter.unusedVariables false

theorem G.msV_len (g : G) (least : Int) : (g.msV least).length ≤ 49 := by
  have h := g.mstL_len least g.rkV g.rkV.length
  rw [List.take_length] at h
  have := g.rkV_len
  unfold G.msV
  omega

theorem all_FnExactPeakMost (v : Value) (g : G) (a : Int) (w : World) (hv : RdM 0 w.heap.size w v g) (_ : -9223372036854775808 ≤ a ∧ a ≤ 9223372036854775807) :
    Calls Try.prog 9 #[v, .int .i64 a] w (LawPost w) := by
  have hlen := g.msV_len a
  by_cases h : g.Valid
  · have hM : g.n * g.len 0 ≤ 49 := mul_le_49 h.1.2 h.2.1.2
    exact law_FnExactPeakMost v g a w (g.msV a).length (ixZ (g.msV a)) hv (fun u W lo hi hu hh => (specPeakMost_any u lo hi g a W hu hh).mono fun _ _ k => k.ls hM)
      (fun u W lo hi hu hh => (implPeakMost_any u lo hi g a W hu hh).mono fun _ _ k => k.lg hM) (by omega)
  · have e := G.msV_no h a
    exact law_FnExactPeakMost v g a w ([] : List (Ix 0)).length (ixZ ([] : List (Ix 0))) hv (fun u W lo hi hu hh => (specPeakMost_any u lo hi g a W hu hh).mono fun _ _ k => (k.nil0 e).ls (by omega))
      (fun u W lo hi hu hh => (implPeakMost_any u lo hi g a W hu hh).mono fun _ _ k => (k.nil0 e).lg (by omega)) (by simp)

end Go.Proofs.Ytlbdglhippapnab
