/- WaterSinks of the program. -/
import Derived.Test.YtepnhamkadkipaaSinkI
import Derived.Test.YtepnhamkadkipaaSinkS
import Derived.Test.YtepnhamkadkipaaRunE
namespace Go.Proofs.Ytepnhamkadkipaa
open Go.RowKit Go.Shelf
set_option linter.unusedVariables false

theorem LvPost.ls {M : Nat} {l : List (Ix M)} {w w' : World} {e : Ending} (h : LvPost l w e w') (hM : M ≤ 49) : LsPost1 l.length (ixZ l) w e w' := by
  obtain ⟨v, he, hl, hb⟩ := h
  obtain ⟨a, c, rfl⟩ := hl.shape
  exact ⟨_, he, ⟨_, _, _, rfl⟩, (hl.owI hM).rd, hb⟩
theorem LvPost.lg {M : Nat} {l : List (Ix M)} {w w' : World} {e : Ending} (h : LvPost l w e w') (hM : M ≤ 49) : LgPost1 l.length (ixZ l) w e w' := by
  obtain ⟨v, he, hl, hb⟩ := h
  obtain ⟨a, c, rfl⟩ := hl.shape
  exact ⟨_, he, ⟨_, _, _, rfl⟩, hl.owI hM, hb⟩
theorem LvPost.nil0 {M : Nat} {L : List (Ix M)} {w w' : World} {e : Ending} (h : LvPost L w e w') (e0 : L = []) : LvPost ([] : List (Ix 0)) w e w' := by
  subst e0
  obtain ⟨v, he, hl, hb⟩ := h
  exact ⟨v, he, hl, hb⟩

end Go.Proofs.Ytepnhamkadkipaa
