/- Exact laws of chapter 8, whole: LabelPlaces. -/
import Derived.Test.YtfhaiaiehgohpaaLawLabelPlaces
namespace Go.Proofs.Ytfhaiaiehgohpaa
open Go.RowKit

theorem fnExactLabelPlaces_all (x y a g s : Int) (w : World) (hr : (-9223372036854775808 ≤ x ∧ x ≤ 9223372036854775807) ∧ (-9223372036854775808 ≤ y ∧ y ≤ 9223372036854775807) ∧ (-9223372036854775808 ≤ a ∧ a ≤ 9223372036854775807) ∧ (-9223372036854775808 ≤ g ∧ g ≤ 9223372036854775807)) (hs : -9223372036854775808 ≤ s ∧ s ≤ 9223372036854775807) :
    Calls Try.prog 4 #[.agg #[.int .i64 x, .int .i64 y, .int .i64 a, .int .i64 g], .int .i64 s] w (LawPost w) :=
  law_FnExactLabelPlaces x y a g s w (lpB x y a g s) (lpL x y a g s).length (nsZ (lpL x y a g s)) hr hs (fun W => (specLabelPlaces_any x y a g s W hr).mono fun _ _ h => h.ls lpL_ok.1) (fun W => (implLabelPlaces_any x y a g s W).mono fun _ _ h => h.lg lpL_ok.1) lpL_ok.2
end Go.Proofs.Ytfhaiaiehgohpaa
