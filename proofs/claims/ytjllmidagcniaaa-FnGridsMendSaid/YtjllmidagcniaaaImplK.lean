/- The program's GridBelow. -/
import Derived.Test.YtjllmidagcniaaaSpecJ
namespace Go.Proofs.Ytjllmidagcniaaa
open Go.RowKit
set_option linter.unusedVariables false

/-- the two boxes of 'below' are as they were -/
def TwoBox (R C n1 gg1 cap1 R2 n2 gg2 cap2 B : Nat) (w' : World) : Prop :=
  w'.cell? ⟨B, 0, none⟩ = some (.int .i64 R) ∧ w'.cell? ⟨B, 1, none⟩ = some (.int .i64 C) ∧ w'.cell? ⟨B, 2, none⟩ = some (.slice (some ⟨gg1, 0, none⟩) n1 cap1) ∧ w'.cell? ⟨B + 1, 0, none⟩ = some (.int .i64 R2) ∧ w'.cell? ⟨B + 1, 2, none⟩ = some (.slice (some ⟨gg2, 0, none⟩) n2 cap2)

theorem TwoBox.below {R C n1 gg1 cap1 R2 n2 gg2 cap2 B K : Nat} {w w' : World} (h : TwoBox R C n1 gg1 cap1 R2 n2 gg2 cap2 B w) (hb : Below K w w') (hB : B + 1 < K) : TwoBox R C n1 gg1 cap1 R2 n2 gg2 cap2 B w' :=
  ⟨(hb.cell (p := ⟨B, 0, none⟩) (by show B < K; omega)).trans h.1, (hb.cell (p := ⟨B, 1, none⟩) (by show B < K; omega)).trans h.2.1, (hb.cell (p := ⟨B, 2, none⟩) (by show B < K; omega)).trans h.2.2.1, (hb.cell (p := ⟨B + 1, 0, none⟩) hB).trans h.2.2.2.1, (hb.cell (p := ⟨B + 1, 2, none⟩) hB).trans h.2.2.2.2⟩

theorem TwoBox.far {R C n1 gg1 cap1 R2 n2 gg2 cap2 B x : Nat} {w : World} (h : TwoBox R C n1 gg1 cap1 R2 n2 gg2 cap2 B w) (hx : B + 1 < x) (p q r : Value) : TwoBox R C n1 gg1 cap1 R2 n2 gg2 cap2 B (((w.setCell ⟨x, 0, none⟩ p).setCell ⟨x, 1, none⟩ q).setCell ⟨x, 2, none⟩ r) :=
  ⟨(cell3_far _ _ _ _ _ _ (by omega)).trans h.1, (cell3_far _ _ _ _ _ _ (by omega)).trans h.2.1, (cell3_far _ _ _ _ _ _ (by omega)).trans h.2.2.1, (cell3_far _ _ _ _ _ _ (by omega)).trans h.2.2.2.1, (cell3_far _ _ _ _ _ _ (by omega)).trans h.2.2.2.2⟩

theorem cells2 {w : World} {b : Nat} {x y : Value} {t : TypeId} (h : w.heap[b]? = some (.cells #[x, y] t (0, 0))) : w.cell? ⟨b, 0, none⟩ = some x ∧ w.cell? ⟨b, 1, none⟩ = some y := by
  simp [World.cell?, h]

end Go.Proofs.Ytjllmidagcniaaa
