/- Exact laws of chapter 8, whole: LabelsValid. -/
import Derived.Test.YtfhaiaiehgohpaaLawLabelsValid
namespace Go.Proofs.Ytfhaiaiehgohpaa
open Go.RowKit

theorem fnExactLabelsValid_all (v : Value) (n : Nat) (z : Nat → Int) (w : World) (hv : RdT 0 w.heap.size w v n z) : Calls Try.prog 3 #[v] w (LawPost w) :=
  law_FnExactLabelsValid v n z w (lsB n z) hv (fun h u W hu => specLabelsValid_any u 0 _ n z W hu (Nat.le_refl _) h) (fun h u W hu => implLabelsValid_any u 0 _ n z W hu (Nat.le_refl _) (by omega))
end Go.Proofs.Ytfhaiaiehgohpaa
