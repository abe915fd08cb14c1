/- WaterRun of the model. -/
import Derived.Test.YtlbdglhippapnabRunE
namespace Go.Proofs.Ytlbdglhippapnab
open Go.RowKit
set_option linter.unusedVariables false

theorem LbPost.ls {M : Nat} {b : Bool} {l : List (Ix M)} {w w' : World} {e : Ending} (h : LbPost b l w e w') (hM : M ≤ 49) : LsPost b l.length (ixZ l) w e w' := by
  obtain ⟨v, he, hl, hb⟩ := h
  obtain ⟨a, c, rfl⟩ := hl.shape
  exact ⟨_, he, ⟨_, _, _, rfl⟩, (hl.owI hM).rd, hb⟩
theorem LbPost.lg {M : Nat} {b : Bool} {l : List (Ix M)} {w w' : World} {e : Ending} (h : LbPost b l w e w') (hM : M ≤ 49) : LgPost b l.length (ixZ l) w e w' := by
  obtain ⟨v, he, hl, hb⟩ := h
  obtain ⟨a, c, rfl⟩ := hl.shape
  exact ⟨_, he, ⟨_, _, _, rfl⟩, hl.owI hM, hb⟩

end Go.Proofs.Ytlbdglhippapnab
