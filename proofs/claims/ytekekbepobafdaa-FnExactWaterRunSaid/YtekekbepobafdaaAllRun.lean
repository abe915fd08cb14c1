/- The exact law of WaterRun, for every grid and cell. -/
import Derived.Test.YtekekbepobafdaaLawRun
namespace Go.Proofs.Ytekekbepobafdaa
open Go.RowKit
set_option linter.unusedVariables false

theorem Lists.none49 {B : Nat} {w : World} {v : Value} {M : Nat} (h : Lists B w v ([] : List (Ix M))) : Lists B w v ([] : List (Ix 0)) := h
theorem ixZ_nil : ixZ ([] : List (Ix 0)) = fun _ => 0 := by funext j; simp [ixZ]

open Classical in
theorem all_FnExactWaterRun (v : Value) (g : G) (r c : Int) (w : World) (hv : RdM 0 w.heap.size w v g) (_ : -9223372036854775808 ≤ r ∧ r ≤ 9223372036854775807) (_ : -9223372036854775808 ≤ c ∧ c ≤ 9223372036854775807) :
    Calls Try.prog 4 #[v, .int .i64 r, .int .i64 c] w (LawPost w) := by
  by_cases h : g.Cell r c
  · have hM : g.n * g.len 0 ≤ 49 := mul_le_49 h.1.1.2 h.1.2.1.2
    have hlen : (g.runV r c).length ≤ 100 := by unfold G.runV; rw [dif_pos h]; exact runL_len _ _ _ _
    exact law_FnExactWaterRun v g r c w true (g.runV r c).length (ixZ (g.runV r c)) hv (fun u W lo hi hu hh => (specWaterRun_any u lo hi g r c W hu hh true (by simp [h])).mono fun _ _ k => k.ls hM)
      (fun u W lo hi hu hh => (implWaterRun_any u lo hi g r c W hu hh true (by simp [h])).mono fun _ _ k => k.lg hM) (by omega)
  · have e := G.runV_no h
    refine law_FnExactWaterRun v g r c w false 0 (fun _ => 0) hv (fun u W lo hi hu hh => (specWaterRun_any u lo hi g r c W hu hh false (by simp [h])).mono fun _ _ k => ?_)
      (fun u W lo hi hu hh => (implWaterRun_any u lo hi g r c W hu hh false (by simp [h])).mono fun _ _ k => ?_) (by omega)
    · obtain ⟨v, he, hl, hb⟩ := k
      rw [e] at hl
      obtain ⟨a, c, rfl⟩ := hl.shape
      exact ⟨_, he, ⟨_, _, _, rfl⟩, by simpa [ixZ_nil] using ((hl.none49).owI (by omega)).rd, hb⟩
    · obtain ⟨v, he, hl, hb⟩ := k
      rw [e] at hl
      obtain ⟨a, c, rfl⟩ := hl.shape
      exact ⟨_, he, ⟨_, _, _, rfl⟩, by simpa [ixZ_nil] using (hl.none49).owI (by omega), hb⟩

end Go.Proofs.Ytekekbepobafdaa
