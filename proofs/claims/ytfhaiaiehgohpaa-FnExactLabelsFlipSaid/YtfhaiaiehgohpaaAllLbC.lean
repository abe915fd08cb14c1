/- Exact laws of chapter 8, whole: LabelsFlip. -/
import Derived.Test.YtfhaiaiehgohpaaLawLabelsFlip
namespace Go.Proofs.Ytfhaiaiehgohpaa
open Go.RowKit

theorem fnExactLabelsFlip_all (v : Value) (n : Nat) (z : Nat → Int) (w : World) (hv : RdT 0 w.heap.size w v n z) : Calls Try.prog 12 #[v] w (LawPost w) :=
  law_FnExactLabelsFlip v n z w (lsB n z) (lsM n z) (flZ z) hv (fun h u W hu => specLabelsFlip_any u 0 _ n z W hu (Nat.le_refl _) h) (fun h u W hu => implLabelsFlip_any u 0 _ n z W hu (Nat.le_refl _) h) (fun h => by unfold lsM; split <;> omega)
end Go.Proofs.Ytfhaiaiehgohpaa
