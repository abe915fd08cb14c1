/- Exact laws of chapter 8, whole: SettingMany. -/
import Derived.Test.YtfhaiaiehgohpaaLawSettingMany
namespace Go.Proofs.Ytfhaiaiehgohpaa
open Go.RowKit

theorem fnExactSettingMany_all (v : Value) (n : Nat) (z : Nat → Int) (w : World) (hv : RdT 0 w.heap.size w v n z) : Calls Try.prog 9 #[v] w (LawPost w) :=
  law_FnExactSettingMany v n z w (smV n z) hv (fun h u W hu => specSettingMany_any u 0 _ n z W hu (Nat.le_refl _) h) (fun h u W hu => implSettingMany_any u _ n z W hu (Nat.le_refl _) h)
end Go.Proofs.Ytfhaiaiehgohpaa
