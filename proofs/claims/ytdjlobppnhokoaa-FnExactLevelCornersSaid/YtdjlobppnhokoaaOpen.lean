/- The arguments of a law, opened: a list of lists of numbers reads as a grid. -/
import Derived.Test.YtdjlobppnhokoaaBase
import Derived.Test.YtdjlobppnhokoaaRows
import Derived.ProofKit
import Derived.OpenShut
import Derived.ChangeOld
import Derived.Deep.Matrix
namespace Go.Proofs.Ytdjlobppnhokoaa
open Go.ChangeShapes Go.WideShapes Go.ChangeAt Go.RowKit Go.Deep
set_option linter.unusedVariables false

theorem own : ownKnob Try.prog.godebug = none := by kernel_rfl
theorem laidOut : laidOutB Try.prog = true := by kernel_rfl
theorem Try.cellsR : Try.prog.cellsOf 27 = 1 := by kernel_rfl
theorem Try.cellsI : Try.prog.cellsOf 3 = 1 := by kernel_rfl

theorem wf_range {n : Int} (h : (Lit.int .i64 n).wf = true) : -9223372036854775808 ≤ n ∧ n ≤ 9223372036854775807 := by
  simpa [Lit.wf, IntKind.min, IntKind.max, IntKind.signed, IntKind.bits] using h

theorem add_none {b off : Nat} (r : Nat) : (⟨b, off, none⟩ : Addr).add r = ⟨b, off + r, none⟩ := by
  unfold Addr.add; split <;> simp_all

theorem open_grid {H : Type} {enc : TypeId × Value → H} {W : World} {held : Bool} {v : Value} {d : DataW H} {ps : List MemPlace} (hv : ∃ a l c, v = .slice a l c) (h : DataW.Trod enc Try.prog W 0 (fun _ => true) held 22 v d ps) :
    ∃ g, RdM 0 W.heap.size W v g := by
  obtain ⟨a, l, c, rfl⟩ := hv
  obtain ⟨fuel, hf⟩ := h
  rcases open_int_rows Try.underlying22 Try.underlying27 Try.underlying3 Try.cellsR Try.cellsI hf with ⟨hcs, _⟩ | ⟨x, len, cap, A, L, C, Z, hcs, _, hl, hm, _, hr⟩
  · simp [Value.cells] at hcs
    obtain ⟨rfl, rfl, rfl⟩ := hcs
    exact ⟨⟨0, fun _ => 0, fun _ _ => 0⟩, none, 0, 0, 0, fun _ => none, fun _ => 0, rfl, by simp, by omega, fun h => by simp at h, fun r hr => by simp at hr, fun r hr => by simp at hr⟩
  · simp [Value.cells] at hcs
    obtain ⟨rfl, rfl, rfl⟩ := hcs
    have hmm : c ≤ 9223372036854775807 := by unfold maxLen at hm; omega
    by_cases h0 : 0 < l
    · obtain ⟨b, off, spot⟩ := x
      have hc0 := (hr 0 (by omega)).1
      have hspot : spot = none := by simpa [Addr.add] using World.cell?_spot hc0
      subst hspot
      refine ⟨⟨l, L, fun r c => (Z r).getD c 0⟩, _, c, b, off, A, C, rfl, hl, hmm, fun _ => ⟨rfl, Nat.zero_le _, ?_⟩, fun r hr' => ?_, fun r hr' => ?_⟩
      · exact World.block_lt_of_cell? _ _ hc0
      · have := (hr r (by simp only at hr'; omega)).1
        rwa [add_none] at this
      · obtain ⟨_, e1, e2, e3, e4, e5, e6⟩ := hr r (by simp only at hr'; omega)
        have e2' : C r ≤ 9223372036854775807 := by unfold maxLen at e2; omega
        have hrange : ∀ i, i < L r → -9223372036854775808 ≤ (Z r).getD i 0 ∧ (Z r).getD i 0 ≤ 9223372036854775807 := fun i hi => by
          refine wf_range (e4 _ ?_)
          rw [List.getD_eq_getElem?_getD, List.getElem?_eq_getElem (by omega)]
          exact List.getElem_mem _
        rcases hA : A r with _ | a'
        · have := e5 hA
          exact ⟨_, C r, 0, 0, rfl, e1, e2', hrange, fun h => by simp only at h; omega, fun i hi => by simp only at hi; omega⟩
        · by_cases hL : 0 < L r
          · obtain ⟨b', off', spot'⟩ := a'
            have k0 := (e6 _ hA).2 0 (by omega)
            have hspot' : spot' = none := by simpa [Addr.add] using World.cell?_spot k0
            subst hspot'
            refine ⟨_, C r, b', off', rfl, e1, e2', hrange, fun _ => ⟨rfl, Nat.zero_le _, ?_⟩, fun i hi => ?_⟩
            · exact World.block_lt_of_cell? _ _ k0
            · have := (e6 _ hA).2 i (by simp only at hi; omega)
              rwa [add_none] at this
          · exact ⟨_, C r, 0, 0, rfl, e1, e2', hrange, fun h => by simp only at h; omega, fun i hi => by simp only at hi; omega⟩
    · obtain rfl : l = 0 := by omega
      exact ⟨⟨0, fun _ => 0, fun _ _ => 0⟩, _, c, 0, 0, fun _ => none, fun _ => 0, rfl, by simp, hmm, fun h => by simp at h, fun r hr => by simp at hr, fun r hr => by simp at hr⟩

end Go.Proofs.Ytdjlobppnhokoaa
