/- Exact laws of chapter 8, whole: SettingValid, SettingWeight. -/
import Derived.Test.YtfhaiaiehgohpaaLawSettingValid
import Derived.Test.YtfhaiaiehgohpaaLawSettingWeight
namespace Go.Proofs.Ytfhaiaiehgohpaa
open Go.RowKit

theorem fnExactSettingValid_all (v : Value) (n : Nat) (z : Nat → Int) (v2 : Value) (n2 : Nat) (z2 : Nat → Int) (w : World) (hv : RdT 0 w.heap.size w v n z) (hv2 : RdI 0 w.heap.size w v2 n2 z2) : Calls Try.prog 5 #[v, v2] w (LawPost w) :=
  law_FnExactSettingValid v n z v2 n2 z2 w (svB n z n2 z2) hv hv2 (fun h h2 u u2 W hu hu2 => specSettingValid_any u 0 _ n z u2 0 _ n2 z2 W hu (Nat.le_refl _) h hu2 (Nat.le_refl _) h2) (fun h h2 u u2 W hu hu2 => implSettingValid_any u _ n z u2 0 _ n2 z2 W hu (Nat.le_refl _) h hu2 (Nat.le_refl _) h2)
theorem fnExactSettingWeight_all (v : Value) (n : Nat) (z : Nat → Int) (v2 : Value) (n2 : Nat) (z2 : Nat → Int) (w : World) (hv : RdT 0 w.heap.size w v n z) (hv2 : RdI 0 w.heap.size w v2 n2 z2) : Calls Try.prog 6 #[v, v2] w (LawPost w) :=
  law_FnExactSettingWeight v n z v2 n2 z2 w (swV n z n2 z2) hv hv2 (fun h h2 u u2 W hu hu2 => specSettingWeight_any u 0 _ n z u2 0 _ n2 z2 W hu (Nat.le_refl _) h hu2 (Nat.le_refl _) h2) (fun h h2 u u2 W hu hu2 => implSettingWeight_any u _ n z u2 0 _ n2 z2 W hu (Nat.le_refl _) h hu2 (Nat.le_refl _) h2)
end Go.Proofs.Ytfhaiaiehgohpaa
