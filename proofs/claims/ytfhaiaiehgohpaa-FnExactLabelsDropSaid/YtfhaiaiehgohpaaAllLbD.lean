/- Exact laws of chapter 8, whole: LabelsDrop. -/
import Derived.Test.YtfhaiaiehgohpaaLawLabelsDrop
namespace Go.Proofs.Ytfhaiaiehgohpaa
open Go.RowKit

theorem fnExactLabelsDrop_all (v : Value) (n : Nat) (z : Nat → Int) (k : Int) (w : World) (hv : RdT 0 w.heap.size w v n z) (hk : -9223372036854775808 ≤ k ∧ k ≤ 9223372036854775807) : Calls Try.prog 11 #[v, .int .i64 k] w (LawPost w) :=
  law_FnExactLabelsDrop v n z k w (dlB n z k) (dlN n z k) (dzF z k.toNat) hv hk (fun h u W hu => specLabelsDrop_any u 0 _ n z k W hu (Nat.le_refl _) h) (fun h u W hu => implLabelsDrop_any u 0 _ n z k W hu (Nat.le_refl _) h) (fun h => by unfold dlN; split <;> omega)
end Go.Proofs.Ytfhaiaiehgohpaa
