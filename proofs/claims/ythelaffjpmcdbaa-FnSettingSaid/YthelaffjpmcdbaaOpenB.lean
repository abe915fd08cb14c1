/- The argument of a promise's law, opened: bytes. -/
import Derived.Test.YthelaffjpmcdbaaM1
import Derived.Test.YthelaffjpmcdbaaDrawA
namespace Go.Proofs.Ythelaffjpmcdbaa
open Go.ChangeShapes Go.WideShapes Go.ChangeAt Go.RowKit Go.Deep
set_option linter.unusedVariables false

theorem Try.cellsB : Try.prog.cellsOf 5 = 1 := by kernel_rfl

theorem open_bytes {H : Type} {enc : TypeId × Value → H} {W : World} {held : Bool} {v : Value} {d : DataW H} {ps : List MemPlace} (hv : ∃ a l c, v = .slice a l c) (h : DataW.Trod enc Try.prog W 0 (fun _ => true) held 22 v d ps) :
    ∃ n, RdB W.heap.size W v n := by
  obtain ⟨a, l, c, rfl⟩ := hv
  obtain ⟨fuel, hf⟩ := h
  rcases open_ints Try.underlying22 Try.underlying5 Try.cellsB hf with ⟨hcs, _⟩ | ⟨x, len, cap, zs, hcs, _, hl, hm, hlen, _, hz, hw⟩
  · simp [Value.cells] at hcs
    obtain ⟨rfl, rfl, rfl⟩ := hcs
    exact ⟨0, none, 0, 0, 0, fun _ => 0, rfl, Nat.le_refl _, by omega, fun h => by omega, fun i hi => by omega⟩
  · simp [Value.cells] at hcs
    obtain ⟨rfl, rfl, rfl⟩ := hcs
    have hmm : c ≤ 9223372036854775807 := by unfold maxLen at hm; omega
    simp only [if_true] at hlen
    by_cases h0 : 0 < l
    · obtain ⟨b, off, spot⟩ := x
      have hc0 := hz 0 (by omega)
      have hspot : spot = none := by simpa [Addr.add] using World.cell?_spot hc0
      subst hspot
      refine ⟨l, _, c, b, off, fun i => zs.getD i 0, rfl, hl, hmm, fun _ => ⟨rfl, World.block_lt_of_cell? _ _ hc0⟩, fun i hi => ?_⟩
      have h1 := hz i (by omega)
      rw [add_none] at h1
      have h2 := hw (zs.getD i 0) (by
        rw [List.getD_eq_getElem?_getD, List.getElem?_eq_getElem (by omega)]
        exact List.getElem_mem _)
      refine ⟨h1, ?_⟩
      simpa [Lit.wf, IntKind.min, IntKind.max, IntKind.signed, IntKind.bits] using h2
    · obtain rfl : l = 0 := by omega
      exact ⟨0, some x, c, 0, 0, fun _ => 0, rfl, hl, hmm, fun h => by omega, fun i hi => by omega⟩

end Go.Proofs.Ythelaffjpmcdbaa
