/- Draws of profiles and of their points. -/
import Derived.Test.YthelaffjpmcdbaaDrawD
import Derived.Test.YthelaffjpmcdbaaPrR
namespace Go.Proofs.Ythelaffjpmcdbaa
open Go.RowKit
set_option linter.unusedVariables false

theorem Nums.chg {B C : Nat} {w w' : World} {v : Value} {l : List Int} (h : Nums C w v l) (hc : Chg B (B + 1) w w') (hB : B < C) : Nums C w' v l := by
  obtain ⟨hlen, ⟨rfl, h0⟩ | ⟨b, cap, cur, rfl, hC, hb, hr⟩⟩ := h
  · exact ⟨hlen, Or.inl ⟨rfl, h0⟩⟩
  · have hlt : b < w.heap.size := (Array.getElem?_eq_some_iff.1 hb).1
    exact ⟨hlen, Or.inr ⟨b, cap, cur, rfl, hC, (hc.block b hlt (by omega)).trans hb, hr⟩⟩

/-- a profile that is drawn: a list of up to m numbers, each -1 to 100 -/
def PfPost (B m : Nat) (w : World) (e : Ending) (w' : World) : Prop :=
  ∃ v n Z, e = .returned v ∧ (∃ a l c, v = .slice a l c) ∧ RdI (B + 1) w'.heap.size w' v n Z ∧ n ≤ m ∧ (∀ i, i < n → -1 ≤ Z i ∧ Z i ≤ 100) ∧ (∃ q, q ≤ 1000 ∧ Rdr w' B q) ∧ Chg B (B + 1) w w'

end Go.Proofs.Ythelaffjpmcdbaa
