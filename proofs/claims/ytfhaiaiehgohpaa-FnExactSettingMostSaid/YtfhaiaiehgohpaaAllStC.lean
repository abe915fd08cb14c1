/- Exact laws of chapter 8, whole: SettingMost. -/
import Derived.Test.YtfhaiaiehgohpaaLawSettingMost
namespace Go.Proofs.Ytfhaiaiehgohpaa
open Go.RowKit

theorem fnExactSettingMost_all (v : Value) (n : Nat) (z : Nat → Int) (w : World) (hv : RdT 0 w.heap.size w v n z) : Calls Try.prog 10 #[v] w (LawPost w) :=
  law_FnExactSettingMost v n z w (soV n z) hv (fun h u W hu => specSettingMost_any u 0 _ n z W hu (Nat.le_refl _) h) (fun h u W hu => implSettingMost_any u _ n z W hu (Nat.le_refl _) h)
end Go.Proofs.Ytfhaiaiehgohpaa
