/- The exact law of WaterFlow, for every grid. -/
import Derived.Test.YtplfphpnpjjinaaLawFlow
import Derived.Test.YtplfphpnpjjinaaFlowI
import Derived.Test.YtplfphpnpjjinaaFlowS
namespace Go.Proofs.Ytplfphpnpjjinaa
open Go.RowKit
set_option linter.unusedVariables false

theorem LgPost.rdf {b : Bool} {n : Nat} {Z : Nat → Int} {w w' : World} {e : Ending} (h : LgPost b n Z w e w') : LsPost b n Z w e w' := by
  obtain ⟨v, h1, h2, h3, h4⟩ := h
  exact ⟨v, h1, h2, h3.rd, h4⟩

theorem all_FnExactWaterFlow (v : Value) (g : G) (w : World) (hv : RdM 0 w.heap.size w v g) :
    Calls Try.prog 8 #[v] w (LawPost w) := by
  have hle : g.flW ≤ 1048576 := by
    by_cases h : g.Valid
    · rw [G.flW_yes h]; have := mul_le_49 h.1.2 h.2.1.2; omega
    · rw [G.flW_no h]; omega
  obtain ⟨b, hb⟩ : ∃ b : Bool, b = true ↔ g.Valid := by
    by_cases h : g.Valid
    · exact ⟨true, by simp [h]⟩
    · exact ⟨false, by simp [h]⟩
  exact law_FnExactWaterFlow v g w b g.flW g.flZ hv (fun u W lo hi hu hh => (specWaterFlow_any u lo hi g W hu hh b hb).mono fun _ _ k => k.rdf) (fun u W lo hi hu hh => implWaterFlow_any u lo hi g W hu hh b hb) hle

end Go.Proofs.Ytplfphpnpjjinaa
