/- The argument of an exact law, opened: a list of numbers. -/
import Derived.Test.YtidlloelinmnnaaM1
namespace Go.Proofs.Ytidlloelinmnnaa
open Go.ChangeShapes Go.WideShapes Go.ChangeAt Go.RowKit Go.Deep
set_option linter.unusedVariables false

theorem open_list {H : Type} {enc : TypeId × Value → H} {W : World} {held : Bool} {v : Value} {d : DataW H} {ps : List MemPlace} (hv : ∃ a l c, v = .slice a l c) (h : DataW.Trod enc Try.prog W 0 (fun _ => true) held 26 v d ps) :
    ∃ n z, RdI 0 W.heap.size W v n z := by
  obtain ⟨a, l, c, rfl⟩ := hv
  obtain ⟨fuel, hf⟩ := h
  rcases open_ints Try.underlying26 Try.underlying3 Try.cellsI hf with ⟨hcs, _⟩ | ⟨x, len, cap, zs, hcs, _, hl, hm, hlen, _, hz, hw⟩
  · simp [Value.cells] at hcs
    obtain ⟨rfl, rfl, rfl⟩ := hcs
    exact ⟨0, fun _ => 0, none, 0, 0, 0, rfl, Nat.le_refl _, by omega, fun i hi => by omega, fun h => by omega, fun i hi => by omega⟩
  · simp [Value.cells] at hcs
    obtain ⟨rfl, rfl, rfl⟩ := hcs
    have hmm : c ≤ 9223372036854775807 := by unfold maxLen at hm; omega
    simp only [if_true] at hlen
    have hrange : ∀ i, i < l → -9223372036854775808 ≤ zs.getD i 0 ∧ zs.getD i 0 ≤ 9223372036854775807 := fun i hi => by
      refine wf_range (hw _ ?_)
      rw [List.getD_eq_getElem?_getD, List.getElem?_eq_getElem (by omega)]
      exact List.getElem_mem _
    by_cases h0 : 0 < l
    · obtain ⟨b, off, spot⟩ := x
      have hc0 := hz 0 (by omega)
      have hspot : spot = none := by simpa [Addr.add] using World.cell?_spot hc0
      subst hspot
      refine ⟨l, fun i => zs.getD i 0, _, c, b, off, rfl, hl, hmm, hrange, fun _ => ⟨rfl, Nat.zero_le _, World.block_lt_of_cell? _ _ hc0⟩, fun i hi => ?_⟩
      have h1 := hz i (by omega)
      rwa [add_none] at h1
    · obtain rfl : l = 0 := by omega
      exact ⟨0, fun _ => 0, some x, c, 0, 0, rfl, hl, hmm, fun i hi => by omega, fun h => by omega, fun i hi => by omega⟩

end Go.Proofs.Ytidlloelinmnnaa
