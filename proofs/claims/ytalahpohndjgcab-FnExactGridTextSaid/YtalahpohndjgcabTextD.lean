/- The model's GridText, for every grid. -/
import Derived.Test.YtalahpohndjgcabTextC
namespace Go.Proofs.Ytalahpohndjgcab
open Go.RowKit
set_option linter.unusedVariables false

theorem specGridText_any (v : Value) (lo hi : Nat) (g : G) (w : World) (hv : RdM lo hi w v g) (hh : hi ≤ w.heap.size) :
    Calls Try.prog 42 #[v] w (StrPost (txtOf g) w) := by
  by_cases h : g.Valid
  · exact specGridText_yes v lo hi g w hv hh h
  · exact specGridText_no v lo hi g w hv hh h

end Go.Proofs.Ytalahpohndjgcab
