/- Exact laws of chapter 8, whole: SettingFlip. -/
import Derived.Test.YtfhaiaiehgohpaaLawSettingFlip
namespace Go.Proofs.Ytfhaiaiehgohpaa
open Go.RowKit

theorem fnExactSettingFlip_all (v : Value) (n : Nat) (z : Nat → Int) (w : World) (hv : RdI 0 w.heap.size w v n z) : Calls Try.prog 13 #[v] w (LawPost w) :=
  law_FnExactSettingFlip v n z w (fnL (fun i => flI (z i)) n).length (nsZ (fnL (fun i => flI (z i)) n)) hv (fun h u W hu => (specSettingFlip_any u 0 _ n z W hu (Nat.le_refl _) h).mono fun _ _ q => q.ls (fnL_flip_ok hv.range)) (fun h u W hu => (implSettingFlip_any u 0 _ n z W hu (Nat.le_refl _) h).mono fun _ _ q => q.lg (fnL_flip_ok hv.range)) (fun h => by rw [fnL_len]; exact h)
end Go.Proofs.Ytfhaiaiehgohpaa
