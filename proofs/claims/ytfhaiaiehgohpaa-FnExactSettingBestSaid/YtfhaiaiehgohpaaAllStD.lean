/- Exact laws of chapter 8, whole: SettingBest. -/
import Derived.Test.YtfhaiaiehgohpaaLawSettingBest
namespace Go.Proofs.Ytfhaiaiehgohpaa
open Go.RowKit

theorem best_spec {n : Nat} {Z : Nat → Int} {w w' : World} {e : Ending} (h : NbPost (lsB n Z) (fnL (cs Z n) (lsN n Z)) w e w') : LsPost (lsB n Z) (lsN n Z) (bsG n Z) w e w' := by
  obtain ⟨v, rfl, hs, hr, hb⟩ := h.ls (cs_ok Z n _)
  rw [fnL_len] at hr
  refine ⟨v, rfl, hs, hr.congr (fun i hi => ?_), hb⟩
  rw [fnL_z _ _ i hi]
  have : i < n := by unfold lsN at hi; split at hi <;> omega
  rw [bsG_at Z n i this]
theorem fnExactSettingBest_all (v : Value) (n : Nat) (z : Nat → Int) (w : World) (hv : RdT 0 w.heap.size w v n z) : Calls Try.prog 8 #[v] w (LawPost w) :=
  law_FnExactSettingBest v n z w (lsB n z) (lsN n z) (bsG n z) hv (fun h u W hu => (specSettingBest_any u 0 _ n z W hu (Nat.le_refl _) h).mono fun _ _ q => best_spec q) (fun h u W hu => implSettingBest_any u _ n z W hu (Nat.le_refl _) h) (fun h => by unfold lsN; split <;> omega)
end Go.Proofs.Ytfhaiaiehgohpaa
